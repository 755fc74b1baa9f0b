/-
  How an amount of sets rises over the orders of some people, when each one joins those before: the pure mathematics, and what a function value that gives the amount does. No condition.
-/
import Derived.Test.YtbegdcnljafloaaMean
import Derived.Test.YtbegdcnljafloaaRunI
namespace Go.Proofs.Ytbegdcnljafloaa
open Go.RowKit

/-- What an amount rises with i, of the first q of an order. -/
def riseTo (M : Nat → Int) (os : List Int) (i : Nat) : Nat → Int
  | 0 => 0
  | q + 1 => riseTo M os i q + if (os.getD q 0).toNat = i then 48 * (M (comeTo os (q + 1)) - M (comeTo os q)) else 0
/-- An amount of the sets of n people: not below 0, bounded, no less of more people. -/
def AmtOk (M : Nat → Int) (n : Nat) : Prop := (∀ s, s < 2 ^ n → 0 ≤ M s ∧ M s ≤ 100) ∧ ∀ s k, s < 2 ^ n → k < n → M s ≤ M (s ||| 2 ^ k)
theorem comeR_lt {os : List Int} {n q : Nat} (ho : orderB n os = true) (hq : q ≤ n) : comeTo os q < 2 ^ n := come_lt q fun j hj => (order_at ho (by omega)).2.2
theorem rise_rg {M : Nat → Int} {n : Nat} {os : List Int} (h : AmtOk M n) (ho : orderB n os = true) (i : Nat) : ∀ q : Nat, q ≤ n → 0 ≤ riseTo M os i q ∧ riseTo M os i q ≤ 4800 * (q : Int)
  | 0, _ => by simp [riseTo]
  | q + 1, hq => by
    have e := rise_rg h ho i q (by omega)
    have hc := comeR_lt ho (show q ≤ n by omega)
    have e1 := h.1 _ hc
    have e2 := h.1 _ (comeR_lt ho hq)
    have e3 : M (comeTo os q) ≤ M (comeTo os (q + 1)) := h.2 _ _ hc (order_at ho (show q < n by omega)).2.2
    simp only [riseTo]
    rw [Int.natCast_add]
    split <;> omega
theorem rise_none {M : Nat → Int} {os : List Int} {i : Nat} : ∀ p, (∀ q, q < p → ¬ (os.getD q 0).toNat = i) → riseTo M os i p = 0
  | 0, _ => rfl
  | p + 1, h => by
    simp only [riseTo]
    rw [if_neg (h p (by omega)), rise_none p (fun q hq => h q (by omega))]; rfl
theorem rise_new {M : Nat → Int} {n p : Nat} {os : List Int} (ho : orderB n os = true) (hp : p < n) : riseTo M os (os.getD p 0).toNat p = 0 := by
  obtain ⟨hl, hto⟩ := order_iff ho
  obtain ⟨h1, h2, h3⟩ := hto p (by omega)
  exact rise_none p (seen_was (n := n) (by omega) p h3)
theorem rise_step {M : Nat → Int} {os : List Int} {n p x : Nat} {U L : Int} (ho : orderB n os = true) (hp : p < n) (hv : (x : Int) = os.getD p 0) (hL : L = M (comeTo os p)) (hU : U = M (comeTo os (p + 1))) : (fnRow n (fun i => riseTo M os i p)).set x (48 * (U - L)) = fnRow n (fun i => riseTo M os i (p + 1)) := by
  have hx : (os.getD p 0).toNat = x := by rw [← hv]; simp
  have e := rise_new (M := M) ho hp
  rw [hx] at e
  refine fnRow_set (fun i _ hi => ?_) ?_
  · simp only [riseTo]; rw [if_neg (by rw [hx]; exact fun z => hi z.symm)]; omega
  · simp only [riseTo]; rw [if_pos hx, e, hU, hL]; omega
theorem rise_start (M : Nat → Int) (os : List Int) (n : Nat) : fnRow n (fun i => riseTo M os i 0) = List.replicate n 0 := fnRow_zero n
theorem rise_same {M M' : Nat → Int} {n : Nat} {os : List Int} (ho : orderB n os = true) (h : ∀ s, s < 2 ^ n → M s = M' s) (i : Nat) : ∀ q, q ≤ n → riseTo M os i q = riseTo M' os i q
  | 0, _ => rfl
  | q + 1, hq => by
    simp only [riseTo]
    rw [rise_same ho h i q (by omega), h _ (comeR_lt ho hq), h _ (comeR_lt ho (show q ≤ n by omega))]
/-- The row of all, by an order; of no order it is of nothing. -/
noncomputable def risesR (M : Nat → Int) (n : Nat) (os : List Int) : List Int := fnRow n (fun i => if orderB n os = true then riseTo M os i n else 0)
theorem risesR_length (M : Nat → Int) (n : Nat) (os : List Int) : (risesR M n os).length = n := fnRow_length _ _
theorem risesR_yes (M : Nat → Int) {n : Nat} {os : List Int} (ho : orderB n os = true) : risesR M n os = fnRow n (fun i => riseTo M os i n) := fnRow_congr fun _ _ => if_pos ho
theorem risesR_rg {M : Nat → Int} {n : Nat} (h : AmtOk M n) (h4 : n ≤ 4) (os : List Int) (k : Nat) : 0 ≤ (risesR M n os).getD k 0 ∧ (risesR M n os).getD k 0 ≤ 20000 := by
  by_cases hk : k < n
  · rw [risesR, fnRow_getD _ hk]
    split
    · rename_i ho
      have e := rise_rg h ho k n (Nat.le_refl n)
      omega
    · omega
  · rw [getD_far _ (by rw [risesR_length]; omega)]; omega
theorem mean_rises {M : Nat → Int} {n : Nat} (h4 : n ≤ 4) {i : Nat} (hi : i < n) : meanF (risesR M n) n i = ((perms n).map fun os => riseTo M os i n).sum / ((perms n).length : Int) := by
  unfold meanF
  rw [addF_perms h4, ← perms_fac h4]
  congr 2
  refine List.map_congr_left fun o ho => ?_
  have hv : orderB n o = true := perms_order h4 ho
  rw [risesR_yes M hv, fnRow_getD _ hi]

/-- A function value that gives such an amount for each set, in whatever world that has kept the blocks of w0. -/
def AmtOf (K : FuncId) (vs : Array Value) (n : Nat) (M : Nat → Int) (w0 : World) : Prop :=
  ∀ (s : Nat) (w : World), s < 2 ^ n → Below w0.heap.size w0 w → Calls Try.prog K (#[.int .i64 (s : Int)] ++ vs) w (fun e w' => e = .returned (.int .i64 (M s)) ∧ Below w.heap.size w w')
theorem AmtOf.on {K : FuncId} {vs : Array Value} {n : Nat} {M : Nat → Int} {w0 w1 : World} (h : AmtOf K vs n M w0) (hB : Below w0.heap.size w0 w1) : AmtOf K vs n M w1 :=
  fun s w hs hb => h s w hs (hB.trans (hb.mono hB.size))
theorem amt_pow {n : Nat} (h : n ≤ 4) : 1 ≤ 2 ^ n ∧ 2 ^ n ≤ 16 := by
  rcases (show n = 0 ∨ n = 1 ∨ n = 2 ∨ n = 3 ∨ n = 4 from by omega) with rfl | rfl | rfl | rfl | rfl <;> simp
theorem comeR_bit {n : Nat} {y : List Int} {u j x : Nat} (hn : n ≤ 4) (hv : (x : Int) = y.getD j 0) (hx : x < n) (hu : u = comeTo y j) (hb : u < 2 ^ n) : bits .or .i64 (u : Int) (2 ^ x) = ((comeTo y (j + 1) : Nat) : Int) := by
  have e := amt_pow hn
  have e2 := amt_pow (n := x) (by omega)
  rw [show (2 : Int) ^ x = ((2 ^ x : Nat) : Int) from by rw [Int.natCast_pow]; rfl, or_i64 u _ (by omega) (by omega), hu]
  show _ = ((comeTo y j ||| 2 ^ (y.getD j 0).toNat : Nat) : Int)
  rw [← hv, Int.toNat_natCast]

end Go.Proofs.Ytbegdcnljafloaa
