/-
  Awards by orders and arrivals, in plain mathematics: what one gets behind others who claim so much; the sum over all sets that may come before. No condition but those of a case.
-/
import Derived.Test.YtbegdcnljafloaaGame
import Derived.Test.YtbegdcnljafloaaHalf
namespace Go.Proofs.Ytbegdcnljafloaa
open Go.RowKit

/-- What one with a claim of u gets behind others who claim o together. -/
def mar (E u o : Int) : Int := min u (max (E - o) 0)
theorem mar_rg {E u o : Int} (hu : 0 ≤ u) : 0 ≤ mar E u o ∧ mar E u o ≤ u := by unfold mar; omega
/-- What is left behind both. -/
theorem mar_left {E u o : Int} (hu : 0 ≤ u) (_ho : 0 ≤ o) : max (E - o) 0 - mar E u o = max (E - (o + u)) 0 := by unfold mar; omega
/-- From behind, in the other case, it is the loss. -/
theorem mar_other {E S u o p : Int} (hu : 0 ≤ u) (hS : S = o + u + p) : u - mar E u o = mar (S - E) u p := by unfold mar; omega
theorem mar_more {E u v o : Int} (h : u ≤ v) : mar E u o ≤ mar E v o := by unfold mar; omega
theorem mar_less {E u o p : Int} (h : p ≤ o) : mar E u o ≤ mar E u p := by unfold mar; omega
theorem mar_zero {E o : Int} : mar E 0 o = 0 := by unfold mar; omega
theorem mar_swap {E u v o : Int} (h : u ≤ v) : mar E u (o + v) ≤ mar E v (o + u) := by unfold mar; omega
/-- Cut claims change nothing. -/
theorem mar_cut {E u o o' : Int} (h0 : 0 ≤ E) (ho : 0 ≤ o) (ho' : 0 ≤ o') (h : min E o' = min E o) : mar E (min u E) o' = mar E u o := by unfold mar; omega
/-- What one brings to a set. -/
theorem brings_is {E : Int} {xs : List Int} (hx : ∀ k, 0 ≤ xs.getD k 0) {s k : Nat} (hk : k < xs.length) (hb : s.testBit k = false) : worth E xs (s ||| 2 ^ k : Nat) - worth E xs s = mar E (xs.getD k 0) (outSum xs (s ||| 2 ^ k : Nat) xs.length) ∧ outSum xs s xs.length = outSum xs (s ||| 2 ^ k : Nat) xs.length + xs.getD k 0 := by
  have key : ∀ m, outSum xs s m = outSum xs (s ||| 2 ^ k : Nat) m + if k < m then xs.getD k 0 else 0 := fun m => by
    induction m with
    | zero => simp [outSum]
    | succ m ih =>
      rw [out_succ, out_succ, ih, Nat.testBit_or, Nat.testBit_two_pow]
      by_cases c : k = m
      · subst c
        rw [hb, if_neg (Nat.lt_irrefl k), if_pos (Nat.lt_succ_self k)]
        simp
      · have c2 : decide (k = m) = false := decide_eq_false c
        rw [c2, Bool.or_false]
        by_cases d : k < m
        · rw [if_pos d, if_pos (show k < m + 1 by omega)]
          cases s.testBit m <;> simp <;> omega
        · rw [if_neg d, if_neg (show ¬ k < m + 1 by omega)]
          omega
  have e := key xs.length
  rw [if_pos hk] at e
  have e1 := out_nonneg hx (s ||| 2 ^ k : Nat) xs.length
  have e2 := hx k
  refine ⟨?_, e⟩
  unfold worth mar; omega
/-- The sum over all sets of the others that may come before: so many orders have just them before. -/
def fac : Nat → Int
  | 0 => 1
  | n + 1 => ((n : Int) + 1) * fac n
def shp (E u : Int) : List Int → Int → Nat → Nat → Int
  | [], o, t, r => fac t * fac r * mar E u o
  | y :: ys, o, t, r => shp E u ys (o + y) (t + 1) r + shp E u ys o t (r + 1)
theorem fac_pos : ∀ n, 0 < fac n
  | 0 => by simp [fac]
  | n + 1 => by
    have e := fac_pos n
    show 0 < ((n : Int) + 1) * fac n
    exact Int.mul_pos (by omega) e
/-- With fewer before each one gets no less. -/
theorem shp_mono {E u v : Int} (h : u ≤ v) : ∀ (ys : List Int) (o p : Int) (t r : Nat), p ≤ o → shp E u ys o t r ≤ shp E v ys p t r
  | [], o, p, t, r, hp => by
    have e : mar E u o ≤ mar E v p := by unfold mar; omega
    exact Int.mul_le_mul_of_nonneg_left e (Int.le_of_lt (Int.mul_pos (fac_pos t) (fac_pos r)))
  | y :: ys, o, p, t, r, hp => by
    have e1 := shp_mono (E := E) h ys (o + y) (p + y) (t + 1) r (by omega)
    have e2 := shp_mono (E := E) h ys o p t (r + 1) hp
    simp only [shp]; omega
theorem shp_zero (E : Int) : ∀ (ys : List Int) (o : Int) (t r : Nat), shp E 0 ys o t r = 0
  | [], o, t, r => by simp only [shp, mar_zero]; simp
  | y :: ys, o, t, r => by simp only [shp, shp_zero E ys]; rfl
theorem shp_perm {E u : Int} {ys zs : List Int} (h : ys.Perm zs) : ∀ (o : Int) (t r : Nat), shp E u ys o t r = shp E u zs o t r := by
  induction h with
  | nil => intros; rfl
  | cons y _ ih => intro o t r; simp only [shp, ih]
  | swap y z l =>
    intro o t r
    simp only [shp]
    rw [show o + z + y = o + y + z by omega]; omega
  | trans _ _ ih1 ih2 => intro o t r; rw [ih1, ih2]
/-- The weights of all sets. -/
def wts : List Int → Nat → Nat → Int
  | [], t, r => fac t * fac r
  | _ :: ys, t, r => wts ys (t + 1) r + wts ys t (r + 1)
theorem wts_all {ys : List Int} (h : ys.length ≤ 3) : wts ys 0 0 = fac (ys.length + 1) := by
  match ys, h with
  | [], _ => rfl
  | [_], _ => rfl
  | [_, _], _ => rfl
  | [_, _, _], _ => rfl
/-- The losses are those of the other case. -/
theorem shp_other {E S u : Int} (hu : 0 ≤ u) : ∀ (ys : List Int) (o p : Int) (t r : Nat), S = o + ys.sum + u + p → wts ys t r * u - shp E u ys o t r = shp (S - E) u ys p r t
  | [], o, p, t, r, hS => by
    have e := mar_other (E := E) hu (show S = o + u + p by simpa using hS)
    simp only [wts, shp]
    rw [← e, Int.mul_sub, Int.mul_comm (fac r) (fac t)]
  | y :: ys, o, p, t, r, hS => by
    have hS' : S = o + (y + ys.sum) + u + p := by simpa using hS
    have e1 := shp_other (E := E) (S := S) hu ys (o + y) p (t + 1) r (by omega)
    have e2 := shp_other (E := E) (S := S) hu ys o (p + y) t (r + 1) (by omega)
    simp only [wts, shp]
    rw [Int.add_mul]; omega
theorem shp_cut {E u : Int} (h0 : 0 ≤ E) : ∀ (ys : List Int) (o o' : Int) (t r : Nat), (∀ y ∈ ys, 0 ≤ y) → 0 ≤ o → 0 ≤ o' → min E o' = min E o → shp E (min u E) (ys.map fun y => min y E) o' t r = shp E u ys o t r
  | [], o, o', t, r, _, h1, h2, h3 => by simp only [List.map_nil, shp]; rw [mar_cut h0 h1 h2 h3]
  | y :: ys, o, o', t, r, hy, h1, h2, h3 => by
    have e0 := hy y (by simp)
    have e1 := shp_cut (u := u) h0 ys (o + y) (o' + min y E) (t + 1) r (fun z hz => hy z (by simp [hz])) (by omega) (by omega) (by omega)
    have e2 := shp_cut (u := u) h0 ys o o' t (r + 1) (fun z hz => hy z (by simp [hz])) h1 h2 h3
    simp only [List.map_cons, shp, e1, e2]
/-! The row of arrivals. -/
def arrAt (E : Int) (xs : List Int) (k : Nat) : Int := 48 / fac xs.length * shp E (xs.getD k 0) (xs.eraseIdx k) 0 0 0
def arr (E : Int) (xs : List Int) : List Int := (List.range xs.length).map (arrAt E xs)
theorem arr_length (E : Int) (xs : List Int) : (arr E xs).length = xs.length := by simp [arr]
theorem arr_getD (E : Int) (xs : List Int) (k : Nat) (h : k < xs.length) : (arr E xs).getD k 0 = arrAt E xs k := by
  rw [getD_of_lt _ k (by rw [arr_length]; exact h)]; simp [arr]
theorem part_fac {n : Nat} (h1 : 1 ≤ n) (h4 : n ≤ 4) : 0 < 48 / fac n ∧ 48 / fac n * fac n = 48 := by
  rcases (show n = 1 ∨ n = 2 ∨ n = 3 ∨ n = 4 from by omega) with rfl | rfl | rfl | rfl <;> decide
theorem erase_perm : ∀ (xs : List Int) (k : Nat), k < xs.length → xs.Perm (xs.getD k 0 :: xs.eraseIdx k)
  | [], _, h => absurd h (by simp)
  | x :: xs, 0, _ => by simp
  | x :: xs, k + 1, h => by
    have e := erase_perm xs k (by simpa using h)
    rw [List.getD_cons_succ, List.eraseIdx_cons_succ]
    exact (e.cons x).trans (List.Perm.swap _ _ _)
theorem erase_sum : ∀ (xs : List Int) (k : Nat), k < xs.length → xs.sum = xs.getD k 0 + (xs.eraseIdx k).sum
  | [], _, h => absurd h (by simp)
  | x :: xs, 0, _ => by simp
  | x :: xs, k + 1, h => by
    have e := erase_sum xs k (by simpa using h)
    rw [List.getD_cons_succ, List.eraseIdx_cons_succ, List.sum_cons, List.sum_cons]; omega
theorem erase_len (xs : List Int) (k : Nat) (h : k < xs.length) : (xs.eraseIdx k).length = xs.length - 1 := by
  rw [List.length_eraseIdx, if_pos h]
/-- Rows of the same claims give who has the same claim the same. -/
theorem arrAt_perm {E : Int} {xs ys : List Int} (h : ys.Perm xs) {i j : Nat} (hi : i < xs.length) (hj : j < ys.length) (he : ys.getD j 0 = xs.getD i 0) : arrAt E ys j = arrAt E xs i := by
  have e : (ys.eraseIdx j).Perm (xs.eraseIdx i) := by
    have e1 := ((erase_perm ys j hj).symm.trans h).trans (erase_perm xs i hi)
    rw [he] at e1
    exact e1.cons_inv
  unfold arrAt
  rw [he, shp_perm e, h.length_eq]
section
variable {E : Int} {xs : List Int} (h : caseOkB E xs = true)
include h
theorem arr_other {k : Nat} (hk : k < xs.length) : 48 * xs.getD k 0 - arrAt E xs k = arrAt (xs.sum - E) xs k := by
  have hc := (caseOk_iff E xs).1 h
  have e1 := erase_sum xs k hk
  have e2 := erase_len xs k hk
  have e3 := wts_all (ys := xs.eraseIdx k) (by omega)
  have e4 := shp_other (E := E) (S := xs.sum) (case_nonneg h k) (xs.eraseIdx k) 0 0 0 0 (by omega)
  have e5 := part_fac hc.1 hc.2.1
  rw [e3, e2, show xs.length - 1 + 1 = xs.length by omega] at e4
  unfold arrAt
  rw [← e4, Int.mul_sub, ← Int.mul_assoc, e5.2]
theorem arr_rg {k : Nat} (hk : k < xs.length) : 0 ≤ arrAt E xs k ∧ arrAt E xs k ≤ 48 * xs.getD k 0 := by
  have hc := (caseOk_iff E xs).1 h
  have key : ∀ E : Int, 0 ≤ arrAt E xs k := fun E => by
    have e := shp_mono (E := E) (case_nonneg h k) (xs.eraseIdx k) 0 0 0 0 (Int.le_refl _)
    rw [shp_zero] at e
    exact Int.mul_nonneg (Int.le_of_lt (part_fac hc.1 hc.2.1).1) e
  have e1 := key E
  have e2 := key (xs.sum - E)
  rw [← arr_other h hk] at e2
  omega
/-- Who claims more gets no less, and loses no less. -/
theorem arr_keeps {i j : Nat} (hi : i < xs.length) (hj : j < xs.length) (hle : xs.getD i 0 ≤ xs.getD j 0) : arrAt E xs i ≤ arrAt E xs j := by
  have hc := (caseOk_iff E xs).1 h
  by_cases c : xs.getD i 0 = xs.getD j 0
  · rw [arrAt_perm (.refl xs) hj hi c]; exact Int.le_refl _
  · have p1 := erase_perm xs i hi
    have p2 := erase_perm xs j hj
    have m1 : xs.getD j 0 ∈ xs.eraseIdx i := by
      have e : xs.getD j 0 ∈ xs := by rw [getD_of_lt xs j hj]; exact List.getElem_mem hj
      rcases List.mem_cons.1 (p1.subset e) with e | e
      · exact absurd e.symm c
      · exact e
    have q1 := List.perm_cons_erase m1
    have q2 : (xs.eraseIdx j).Perm (xs.getD i 0 :: (xs.eraseIdx i).erase (xs.getD j 0)) := by
      have a := (p2.symm.trans p1).trans (q1.cons _)
      exact (a.trans (List.Perm.swap _ _ _)).cons_inv
    have e : shp E (xs.getD i 0) (xs.eraseIdx i) 0 0 0 ≤ shp E (xs.getD j 0) (xs.eraseIdx j) 0 0 0 := by
      rw [shp_perm q1, shp_perm q2]
      simp only [shp]
      have a1 := shp_mono (E := E) hle ((xs.eraseIdx i).erase (xs.getD j 0)) (0 + xs.getD j 0) (0 + xs.getD i 0) (0 + 1) 0 (by omega)
      have a2 := shp_mono (E := E) hle ((xs.eraseIdx i).erase (xs.getD j 0)) 0 0 0 (0 + 1) (Int.le_refl _)
      omega
    exact Int.mul_le_mul_of_nonneg_left e (Int.le_of_lt (part_fac hc.1 hc.2.1).1)
end
theorem arrAt_zero {E : Int} {xs : List Int} {k : Nat} (hk : xs.getD k 0 = 0) : arrAt E xs k = 0 := by
  unfold arrAt; rw [hk, shp_zero]; simp
theorem fac_0 : fac 0 = 1 := rfl
theorem fac_1 : fac 1 = 1 := rfl
theorem fac_2 : fac 2 = 2 := rfl
theorem fac_3 : fac 3 = 6 := rfl
theorem fac_4 : fac 4 = 24 := rfl
/-- All together they are the estate. -/
theorem arr_sum {E : Int} {xs : List Int} (h : caseOkB E xs = true) : (arr E xs).sum = 48 * E := by
  have hc := (caseOk_iff E xs).1 h
  obtain ⟨L, hL⟩ : ∃ L : Int → Int, L = fun o => max (E - o) 0 := ⟨_, rfl⟩
  have key : ∀ u, 0 ≤ u → ∀ o, mar E u o = L o - L (o + u) := fun u hu o => by rw [hL]; unfold mar; simp only; omega
  have k0 : L 0 = E := by rw [hL]; simp only; omega
  have k1 : L xs.sum = 0 := by rw [hL]; simp only; omega
  clear hL
  match xs, hc, k1 with
  | [a], hc, k1 =>
    have ka := key a (hc.2.2.1 a (by simp)).1
    have rs : a + 0 = 0 + a := by omega
    simp only [arr, arrAt, shp, List.length_cons, List.length_nil, List.range_succ, List.range_zero, List.nil_append, List.map_cons, List.map_nil, List.sum_cons, List.sum_nil, List.getD_cons_zero, List.eraseIdx_cons_zero, Nat.zero_add, fac_0, fac_1, ka]
    simp only [List.sum_cons, List.sum_nil, rs] at k1
    omega
  | [a, b], hc, k1 =>
    have ka := key a (hc.2.2.1 a (by simp)).1
    have kb := key b (hc.2.2.1 b (by simp)).1
    have r0 : 0 + b + a = 0 + a + b := by omega
    have rs : a + (b + 0) = 0 + a + b := by omega
    simp only [arr, arrAt, shp, List.length_cons, List.length_nil, List.range_succ, List.range_zero, List.nil_append, List.map_cons, List.map_nil, List.sum_cons, List.sum_nil, List.getD_cons_zero, List.eraseIdx_cons_zero, Nat.zero_add, fac_0, fac_1, List.cons_append, List.getD_cons_succ, List.eraseIdx_cons_succ, Nat.reduceAdd, fac_2, ka, kb, r0]
    simp only [List.sum_cons, List.sum_nil, rs] at k1
    omega
  | [a, b, c], hc, k1 =>
    have ka := key a (hc.2.2.1 a (by simp)).1
    have kb := key b (hc.2.2.1 b (by simp)).1
    have kc := key c (hc.2.2.1 c (by simp)).1
    have r0 : 0 + b + a = 0 + a + b := by omega
    have r1 : 0 + c + a = 0 + a + c := by omega
    have r2 : 0 + b + c + a = 0 + a + b + c := by omega
    have r3 : 0 + c + b = 0 + b + c := by omega
    have r4 : 0 + a + c + b = 0 + a + b + c := by omega
    have rs : a + (b + (c + 0)) = 0 + a + b + c := by omega
    simp only [arr, arrAt, shp, List.length_cons, List.length_nil, List.range_succ, List.range_zero, List.nil_append, List.map_cons, List.map_nil, List.sum_cons, List.sum_nil, List.getD_cons_zero, List.eraseIdx_cons_zero, Nat.zero_add, fac_0, fac_1, List.cons_append, List.getD_cons_succ, List.eraseIdx_cons_succ, Nat.reduceAdd, fac_2, fac_3, ka, kb, kc, r0, r1, r2, r3, r4]
    simp only [List.sum_cons, List.sum_nil, rs] at k1
    omega
  | [a, b, c, d], hc, k1 =>
    have ka := key a (hc.2.2.1 a (by simp)).1
    have kb := key b (hc.2.2.1 b (by simp)).1
    have kc := key c (hc.2.2.1 c (by simp)).1
    have kd := key d (hc.2.2.1 d (by simp)).1
    have r0 : 0 + b + a = 0 + a + b := by omega
    have r1 : 0 + c + a = 0 + a + c := by omega
    have r2 : 0 + d + a = 0 + a + d := by omega
    have r3 : 0 + b + c + a = 0 + a + b + c := by omega
    have r4 : 0 + b + d + a = 0 + a + b + d := by omega
    have r5 : 0 + c + d + a = 0 + a + c + d := by omega
    have r6 : 0 + b + c + d + a = 0 + a + b + c + d := by omega
    have r7 : 0 + c + b = 0 + b + c := by omega
    have r8 : 0 + d + b = 0 + b + d := by omega
    have r9 : 0 + a + c + b = 0 + a + b + c := by omega
    have r10 : 0 + a + d + b = 0 + a + b + d := by omega
    have r11 : 0 + c + d + b = 0 + b + c + d := by omega
    have r12 : 0 + a + c + d + b = 0 + a + b + c + d := by omega
    have r13 : 0 + d + c = 0 + c + d := by omega
    have r14 : 0 + a + d + c = 0 + a + c + d := by omega
    have r15 : 0 + b + d + c = 0 + b + c + d := by omega
    have r16 : 0 + a + b + d + c = 0 + a + b + c + d := by omega
    have rs : a + (b + (c + (d + 0))) = 0 + a + b + c + d := by omega
    simp only [arr, arrAt, shp, List.length_cons, List.length_nil, List.range_succ, List.range_zero, List.nil_append, List.map_cons, List.map_nil, List.sum_cons, List.sum_nil, List.getD_cons_zero, List.eraseIdx_cons_zero, Nat.zero_add, fac_0, fac_1, List.cons_append, List.getD_cons_succ, List.eraseIdx_cons_succ, Nat.reduceAdd, fac_2, fac_3, fac_4, ka, kb, kc, kd, r0, r1, r2, r3, r4, r5, r6, r7, r8, r9, r10, r11, r12, r13, r14, r15, r16]
    simp only [List.sum_cons, List.sum_nil, rs] at k1
    omega
/-! The shares of the game. -/
/-- How many people a set has, of the first n. -/
def pop (s : Nat) : Nat → Nat
  | 0 => 0
  | n + 1 => pop s n + (if s.testBit n then 1 else 0)
/-- What a set adds to the share of k. -/
def gTerm (E : Int) (xs : List Int) (k s : Nat) : Int :=
  if s.testBit k then 0 else (worth E xs (s ||| 2 ^ k : Nat) - worth E xs s) * fac (pop s xs.length) * fac (xs.length - 1 - pop s xs.length)
def gSum (E : Int) (xs : List Int) (k m : Nat) : Int := ((List.range m).map (gTerm E xs k)).sum
theorem gSum_succ (E : Int) (xs : List Int) (k m : Nat) : gSum E xs k (m + 1) = gSum E xs k m + gTerm E xs k m := by simp [gSum, List.range_succ]
theorem gTerm_yes {E : Int} {xs : List Int} {k s : Nat} (h : s.testBit k = true) : gTerm E xs k s = 0 := by unfold gTerm; rw [if_pos h]
theorem gTerm_no {E : Int} {xs : List Int} (hx : ∀ k, 0 ≤ xs.getD k 0) {k s : Nat} (hk : k < xs.length) (h : s.testBit k = false) {a b : Nat} {o : Int} (ha : pop s xs.length = a) (hb : xs.length - 1 - a = b) (ho : outSum xs (s ||| 2 ^ k : Nat) xs.length = o) :
    gTerm E xs k s = mar E (xs.getD k 0) o * fac a * fac b := by
  unfold gTerm
  rw [if_neg (by simp [h]), (brings_is hx hk h).1, ho, ha, hb]
theorem gSum_10 {E a : Int} (hx : ∀ k, 0 ≤ ([a] : List Int).getD k 0) : gSum E [a] 0 2 = shp E a ([] : List Int) 0 0 0 := by
  have t0 : gTerm E [a] 0 0 = mar E a (0) * fac 0 * fac 0 := gTerm_no hx (by simp) (by decide) (show pop 0 1 = 0 by decide) rfl (by simp [outSum])
  have t1 : gTerm E [a] 0 1 = 0 := gTerm_yes (by decide)
  simp only [gSum, List.range_succ, List.range_zero, List.nil_append, List.cons_append, List.map_cons, List.map_nil, List.sum_cons, List.sum_nil, shp, t0, t1]
  simp only [fac_0]
  omega
theorem gSum_20 {E a b : Int} (hx : ∀ k, 0 ≤ ([a, b] : List Int).getD k 0) : gSum E [a, b] 0 4 = shp E a ([b] : List Int) 0 0 0 := by
  have t0 : gTerm E [a, b] 0 0 = mar E a (0 + b) * fac 0 * fac 1 := gTerm_no hx (by simp) (by decide) (show pop 0 2 = 0 by decide) rfl (by simp [outSum])
  have t1 : gTerm E [a, b] 0 1 = 0 := gTerm_yes (by decide)
  have t2 : gTerm E [a, b] 0 2 = mar E a (0) * fac 1 * fac 0 := gTerm_no hx (by simp) (by decide) (show pop 2 2 = 1 by decide) rfl (by simp [outSum])
  have t3 : gTerm E [a, b] 0 3 = 0 := gTerm_yes (by decide)
  simp only [gSum, List.range_succ, List.range_zero, List.nil_append, List.cons_append, List.map_cons, List.map_nil, List.sum_cons, List.sum_nil, shp, Nat.zero_add, t0, t1, t2, t3]
  simp only [fac_0, fac_1]
  omega
theorem gSum_21 {E a b : Int} (hx : ∀ k, 0 ≤ ([a, b] : List Int).getD k 0) : gSum E [a, b] 1 4 = shp E b ([a] : List Int) 0 0 0 := by
  have t0 : gTerm E [a, b] 1 0 = mar E b (0 + a) * fac 0 * fac 1 := gTerm_no hx (by simp) (by decide) (show pop 0 2 = 0 by decide) rfl (by simp [outSum])
  have t1 : gTerm E [a, b] 1 1 = mar E b (0) * fac 1 * fac 0 := gTerm_no hx (by simp) (by decide) (show pop 1 2 = 1 by decide) rfl (by simp [outSum])
  have t2 : gTerm E [a, b] 1 2 = 0 := gTerm_yes (by decide)
  have t3 : gTerm E [a, b] 1 3 = 0 := gTerm_yes (by decide)
  simp only [gSum, List.range_succ, List.range_zero, List.nil_append, List.cons_append, List.map_cons, List.map_nil, List.sum_cons, List.sum_nil, shp, Nat.zero_add, t0, t1, t2, t3]
  simp only [fac_0, fac_1]
  omega
theorem gSum_30 {E a b c : Int} (hx : ∀ k, 0 ≤ ([a, b, c] : List Int).getD k 0) : gSum E [a, b, c] 0 8 = shp E a ([b, c] : List Int) 0 0 0 := by
  have t0 : gTerm E [a, b, c] 0 0 = mar E a (0 + b + c) * fac 0 * fac 2 := gTerm_no hx (by simp) (by decide) (show pop 0 3 = 0 by decide) rfl (by simp [outSum])
  have t1 : gTerm E [a, b, c] 0 1 = 0 := gTerm_yes (by decide)
  have t2 : gTerm E [a, b, c] 0 2 = mar E a (0 + c) * fac 1 * fac 1 := gTerm_no hx (by simp) (by decide) (show pop 2 3 = 1 by decide) rfl (by simp [outSum])
  have t3 : gTerm E [a, b, c] 0 3 = 0 := gTerm_yes (by decide)
  have t4 : gTerm E [a, b, c] 0 4 = mar E a (0 + b) * fac 1 * fac 1 := gTerm_no hx (by simp) (by decide) (show pop 4 3 = 1 by decide) rfl (by simp [outSum])
  have t5 : gTerm E [a, b, c] 0 5 = 0 := gTerm_yes (by decide)
  have t6 : gTerm E [a, b, c] 0 6 = mar E a (0) * fac 2 * fac 0 := gTerm_no hx (by simp) (by decide) (show pop 6 3 = 2 by decide) rfl (by simp [outSum])
  have t7 : gTerm E [a, b, c] 0 7 = 0 := gTerm_yes (by decide)
  simp only [gSum, List.range_succ, List.range_zero, List.nil_append, List.cons_append, List.map_cons, List.map_nil, List.sum_cons, List.sum_nil, shp, Nat.zero_add, Nat.reduceAdd, t0, t1, t2, t3, t4, t5, t6, t7]
  simp only [fac_0, fac_1, fac_2]
  omega
theorem gSum_31 {E a b c : Int} (hx : ∀ k, 0 ≤ ([a, b, c] : List Int).getD k 0) : gSum E [a, b, c] 1 8 = shp E b ([a, c] : List Int) 0 0 0 := by
  have t0 : gTerm E [a, b, c] 1 0 = mar E b (0 + a + c) * fac 0 * fac 2 := gTerm_no hx (by simp) (by decide) (show pop 0 3 = 0 by decide) rfl (by simp [outSum])
  have t1 : gTerm E [a, b, c] 1 1 = mar E b (0 + c) * fac 1 * fac 1 := gTerm_no hx (by simp) (by decide) (show pop 1 3 = 1 by decide) rfl (by simp [outSum])
  have t2 : gTerm E [a, b, c] 1 2 = 0 := gTerm_yes (by decide)
  have t3 : gTerm E [a, b, c] 1 3 = 0 := gTerm_yes (by decide)
  have t4 : gTerm E [a, b, c] 1 4 = mar E b (0 + a) * fac 1 * fac 1 := gTerm_no hx (by simp) (by decide) (show pop 4 3 = 1 by decide) rfl (by simp [outSum])
  have t5 : gTerm E [a, b, c] 1 5 = mar E b (0) * fac 2 * fac 0 := gTerm_no hx (by simp) (by decide) (show pop 5 3 = 2 by decide) rfl (by simp [outSum])
  have t6 : gTerm E [a, b, c] 1 6 = 0 := gTerm_yes (by decide)
  have t7 : gTerm E [a, b, c] 1 7 = 0 := gTerm_yes (by decide)
  simp only [gSum, List.range_succ, List.range_zero, List.nil_append, List.cons_append, List.map_cons, List.map_nil, List.sum_cons, List.sum_nil, shp, Nat.zero_add, Nat.reduceAdd, t0, t1, t2, t3, t4, t5, t6, t7]
  simp only [fac_0, fac_1, fac_2]
  omega
theorem gSum_32 {E a b c : Int} (hx : ∀ k, 0 ≤ ([a, b, c] : List Int).getD k 0) : gSum E [a, b, c] 2 8 = shp E c ([a, b] : List Int) 0 0 0 := by
  have t0 : gTerm E [a, b, c] 2 0 = mar E c (0 + a + b) * fac 0 * fac 2 := gTerm_no hx (by simp) (by decide) (show pop 0 3 = 0 by decide) rfl (by simp [outSum])
  have t1 : gTerm E [a, b, c] 2 1 = mar E c (0 + b) * fac 1 * fac 1 := gTerm_no hx (by simp) (by decide) (show pop 1 3 = 1 by decide) rfl (by simp [outSum])
  have t2 : gTerm E [a, b, c] 2 2 = mar E c (0 + a) * fac 1 * fac 1 := gTerm_no hx (by simp) (by decide) (show pop 2 3 = 1 by decide) rfl (by simp [outSum])
  have t3 : gTerm E [a, b, c] 2 3 = mar E c (0) * fac 2 * fac 0 := gTerm_no hx (by simp) (by decide) (show pop 3 3 = 2 by decide) rfl (by simp [outSum])
  have t4 : gTerm E [a, b, c] 2 4 = 0 := gTerm_yes (by decide)
  have t5 : gTerm E [a, b, c] 2 5 = 0 := gTerm_yes (by decide)
  have t6 : gTerm E [a, b, c] 2 6 = 0 := gTerm_yes (by decide)
  have t7 : gTerm E [a, b, c] 2 7 = 0 := gTerm_yes (by decide)
  simp only [gSum, List.range_succ, List.range_zero, List.nil_append, List.cons_append, List.map_cons, List.map_nil, List.sum_cons, List.sum_nil, shp, Nat.zero_add, Nat.reduceAdd, t0, t1, t2, t3, t4, t5, t6, t7]
  simp only [fac_0, fac_1, fac_2]
  omega
theorem gSum_40 {E a b c d : Int} (hx : ∀ k, 0 ≤ ([a, b, c, d] : List Int).getD k 0) : gSum E [a, b, c, d] 0 16 = shp E a ([b, c, d] : List Int) 0 0 0 := by
  have t0 : gTerm E [a, b, c, d] 0 0 = mar E a (0 + b + c + d) * fac 0 * fac 3 := gTerm_no hx (by simp) (by decide) (show pop 0 4 = 0 by decide) rfl (by simp [outSum])
  have t1 : gTerm E [a, b, c, d] 0 1 = 0 := gTerm_yes (by decide)
  have t2 : gTerm E [a, b, c, d] 0 2 = mar E a (0 + c + d) * fac 1 * fac 2 := gTerm_no hx (by simp) (by decide) (show pop 2 4 = 1 by decide) rfl (by simp [outSum])
  have t3 : gTerm E [a, b, c, d] 0 3 = 0 := gTerm_yes (by decide)
  have t4 : gTerm E [a, b, c, d] 0 4 = mar E a (0 + b + d) * fac 1 * fac 2 := gTerm_no hx (by simp) (by decide) (show pop 4 4 = 1 by decide) rfl (by simp [outSum])
  have t5 : gTerm E [a, b, c, d] 0 5 = 0 := gTerm_yes (by decide)
  have t6 : gTerm E [a, b, c, d] 0 6 = mar E a (0 + d) * fac 2 * fac 1 := gTerm_no hx (by simp) (by decide) (show pop 6 4 = 2 by decide) rfl (by simp [outSum])
  have t7 : gTerm E [a, b, c, d] 0 7 = 0 := gTerm_yes (by decide)
  have t8 : gTerm E [a, b, c, d] 0 8 = mar E a (0 + b + c) * fac 1 * fac 2 := gTerm_no hx (by simp) (by decide) (show pop 8 4 = 1 by decide) rfl (by simp [outSum])
  have t9 : gTerm E [a, b, c, d] 0 9 = 0 := gTerm_yes (by decide)
  have t10 : gTerm E [a, b, c, d] 0 10 = mar E a (0 + c) * fac 2 * fac 1 := gTerm_no hx (by simp) (by decide) (show pop 10 4 = 2 by decide) rfl (by simp [outSum])
  have t11 : gTerm E [a, b, c, d] 0 11 = 0 := gTerm_yes (by decide)
  have t12 : gTerm E [a, b, c, d] 0 12 = mar E a (0 + b) * fac 2 * fac 1 := gTerm_no hx (by simp) (by decide) (show pop 12 4 = 2 by decide) rfl (by simp [outSum])
  have t13 : gTerm E [a, b, c, d] 0 13 = 0 := gTerm_yes (by decide)
  have t14 : gTerm E [a, b, c, d] 0 14 = mar E a (0) * fac 3 * fac 0 := gTerm_no hx (by simp) (by decide) (show pop 14 4 = 3 by decide) rfl (by simp [outSum])
  have t15 : gTerm E [a, b, c, d] 0 15 = 0 := gTerm_yes (by decide)
  simp only [gSum, List.range_succ, List.range_zero, List.nil_append, List.cons_append, List.map_cons, List.map_nil, List.sum_cons, List.sum_nil, shp, Nat.zero_add, Nat.reduceAdd, t0, t1, t2, t3, t4, t5, t6, t7, t8, t9, t10, t11, t12, t13, t14, t15]
  simp only [fac_0, fac_1, fac_2, fac_3]
  omega
theorem gSum_41 {E a b c d : Int} (hx : ∀ k, 0 ≤ ([a, b, c, d] : List Int).getD k 0) : gSum E [a, b, c, d] 1 16 = shp E b ([a, c, d] : List Int) 0 0 0 := by
  have t0 : gTerm E [a, b, c, d] 1 0 = mar E b (0 + a + c + d) * fac 0 * fac 3 := gTerm_no hx (by simp) (by decide) (show pop 0 4 = 0 by decide) rfl (by simp [outSum])
  have t1 : gTerm E [a, b, c, d] 1 1 = mar E b (0 + c + d) * fac 1 * fac 2 := gTerm_no hx (by simp) (by decide) (show pop 1 4 = 1 by decide) rfl (by simp [outSum])
  have t2 : gTerm E [a, b, c, d] 1 2 = 0 := gTerm_yes (by decide)
  have t3 : gTerm E [a, b, c, d] 1 3 = 0 := gTerm_yes (by decide)
  have t4 : gTerm E [a, b, c, d] 1 4 = mar E b (0 + a + d) * fac 1 * fac 2 := gTerm_no hx (by simp) (by decide) (show pop 4 4 = 1 by decide) rfl (by simp [outSum])
  have t5 : gTerm E [a, b, c, d] 1 5 = mar E b (0 + d) * fac 2 * fac 1 := gTerm_no hx (by simp) (by decide) (show pop 5 4 = 2 by decide) rfl (by simp [outSum])
  have t6 : gTerm E [a, b, c, d] 1 6 = 0 := gTerm_yes (by decide)
  have t7 : gTerm E [a, b, c, d] 1 7 = 0 := gTerm_yes (by decide)
  have t8 : gTerm E [a, b, c, d] 1 8 = mar E b (0 + a + c) * fac 1 * fac 2 := gTerm_no hx (by simp) (by decide) (show pop 8 4 = 1 by decide) rfl (by simp [outSum])
  have t9 : gTerm E [a, b, c, d] 1 9 = mar E b (0 + c) * fac 2 * fac 1 := gTerm_no hx (by simp) (by decide) (show pop 9 4 = 2 by decide) rfl (by simp [outSum])
  have t10 : gTerm E [a, b, c, d] 1 10 = 0 := gTerm_yes (by decide)
  have t11 : gTerm E [a, b, c, d] 1 11 = 0 := gTerm_yes (by decide)
  have t12 : gTerm E [a, b, c, d] 1 12 = mar E b (0 + a) * fac 2 * fac 1 := gTerm_no hx (by simp) (by decide) (show pop 12 4 = 2 by decide) rfl (by simp [outSum])
  have t13 : gTerm E [a, b, c, d] 1 13 = mar E b (0) * fac 3 * fac 0 := gTerm_no hx (by simp) (by decide) (show pop 13 4 = 3 by decide) rfl (by simp [outSum])
  have t14 : gTerm E [a, b, c, d] 1 14 = 0 := gTerm_yes (by decide)
  have t15 : gTerm E [a, b, c, d] 1 15 = 0 := gTerm_yes (by decide)
  simp only [gSum, List.range_succ, List.range_zero, List.nil_append, List.cons_append, List.map_cons, List.map_nil, List.sum_cons, List.sum_nil, shp, Nat.zero_add, Nat.reduceAdd, t0, t1, t2, t3, t4, t5, t6, t7, t8, t9, t10, t11, t12, t13, t14, t15]
  simp only [fac_0, fac_1, fac_2, fac_3]
  omega
theorem gSum_42 {E a b c d : Int} (hx : ∀ k, 0 ≤ ([a, b, c, d] : List Int).getD k 0) : gSum E [a, b, c, d] 2 16 = shp E c ([a, b, d] : List Int) 0 0 0 := by
  have t0 : gTerm E [a, b, c, d] 2 0 = mar E c (0 + a + b + d) * fac 0 * fac 3 := gTerm_no hx (by simp) (by decide) (show pop 0 4 = 0 by decide) rfl (by simp [outSum])
  have t1 : gTerm E [a, b, c, d] 2 1 = mar E c (0 + b + d) * fac 1 * fac 2 := gTerm_no hx (by simp) (by decide) (show pop 1 4 = 1 by decide) rfl (by simp [outSum])
  have t2 : gTerm E [a, b, c, d] 2 2 = mar E c (0 + a + d) * fac 1 * fac 2 := gTerm_no hx (by simp) (by decide) (show pop 2 4 = 1 by decide) rfl (by simp [outSum])
  have t3 : gTerm E [a, b, c, d] 2 3 = mar E c (0 + d) * fac 2 * fac 1 := gTerm_no hx (by simp) (by decide) (show pop 3 4 = 2 by decide) rfl (by simp [outSum])
  have t4 : gTerm E [a, b, c, d] 2 4 = 0 := gTerm_yes (by decide)
  have t5 : gTerm E [a, b, c, d] 2 5 = 0 := gTerm_yes (by decide)
  have t6 : gTerm E [a, b, c, d] 2 6 = 0 := gTerm_yes (by decide)
  have t7 : gTerm E [a, b, c, d] 2 7 = 0 := gTerm_yes (by decide)
  have t8 : gTerm E [a, b, c, d] 2 8 = mar E c (0 + a + b) * fac 1 * fac 2 := gTerm_no hx (by simp) (by decide) (show pop 8 4 = 1 by decide) rfl (by simp [outSum])
  have t9 : gTerm E [a, b, c, d] 2 9 = mar E c (0 + b) * fac 2 * fac 1 := gTerm_no hx (by simp) (by decide) (show pop 9 4 = 2 by decide) rfl (by simp [outSum])
  have t10 : gTerm E [a, b, c, d] 2 10 = mar E c (0 + a) * fac 2 * fac 1 := gTerm_no hx (by simp) (by decide) (show pop 10 4 = 2 by decide) rfl (by simp [outSum])
  have t11 : gTerm E [a, b, c, d] 2 11 = mar E c (0) * fac 3 * fac 0 := gTerm_no hx (by simp) (by decide) (show pop 11 4 = 3 by decide) rfl (by simp [outSum])
  have t12 : gTerm E [a, b, c, d] 2 12 = 0 := gTerm_yes (by decide)
  have t13 : gTerm E [a, b, c, d] 2 13 = 0 := gTerm_yes (by decide)
  have t14 : gTerm E [a, b, c, d] 2 14 = 0 := gTerm_yes (by decide)
  have t15 : gTerm E [a, b, c, d] 2 15 = 0 := gTerm_yes (by decide)
  simp only [gSum, List.range_succ, List.range_zero, List.nil_append, List.cons_append, List.map_cons, List.map_nil, List.sum_cons, List.sum_nil, shp, Nat.zero_add, Nat.reduceAdd, t0, t1, t2, t3, t4, t5, t6, t7, t8, t9, t10, t11, t12, t13, t14, t15]
  simp only [fac_0, fac_1, fac_2, fac_3]
  omega
theorem gSum_43 {E a b c d : Int} (hx : ∀ k, 0 ≤ ([a, b, c, d] : List Int).getD k 0) : gSum E [a, b, c, d] 3 16 = shp E d ([a, b, c] : List Int) 0 0 0 := by
  have t0 : gTerm E [a, b, c, d] 3 0 = mar E d (0 + a + b + c) * fac 0 * fac 3 := gTerm_no hx (by simp) (by decide) (show pop 0 4 = 0 by decide) rfl (by simp [outSum])
  have t1 : gTerm E [a, b, c, d] 3 1 = mar E d (0 + b + c) * fac 1 * fac 2 := gTerm_no hx (by simp) (by decide) (show pop 1 4 = 1 by decide) rfl (by simp [outSum])
  have t2 : gTerm E [a, b, c, d] 3 2 = mar E d (0 + a + c) * fac 1 * fac 2 := gTerm_no hx (by simp) (by decide) (show pop 2 4 = 1 by decide) rfl (by simp [outSum])
  have t3 : gTerm E [a, b, c, d] 3 3 = mar E d (0 + c) * fac 2 * fac 1 := gTerm_no hx (by simp) (by decide) (show pop 3 4 = 2 by decide) rfl (by simp [outSum])
  have t4 : gTerm E [a, b, c, d] 3 4 = mar E d (0 + a + b) * fac 1 * fac 2 := gTerm_no hx (by simp) (by decide) (show pop 4 4 = 1 by decide) rfl (by simp [outSum])
  have t5 : gTerm E [a, b, c, d] 3 5 = mar E d (0 + b) * fac 2 * fac 1 := gTerm_no hx (by simp) (by decide) (show pop 5 4 = 2 by decide) rfl (by simp [outSum])
  have t6 : gTerm E [a, b, c, d] 3 6 = mar E d (0 + a) * fac 2 * fac 1 := gTerm_no hx (by simp) (by decide) (show pop 6 4 = 2 by decide) rfl (by simp [outSum])
  have t7 : gTerm E [a, b, c, d] 3 7 = mar E d (0) * fac 3 * fac 0 := gTerm_no hx (by simp) (by decide) (show pop 7 4 = 3 by decide) rfl (by simp [outSum])
  have t8 : gTerm E [a, b, c, d] 3 8 = 0 := gTerm_yes (by decide)
  have t9 : gTerm E [a, b, c, d] 3 9 = 0 := gTerm_yes (by decide)
  have t10 : gTerm E [a, b, c, d] 3 10 = 0 := gTerm_yes (by decide)
  have t11 : gTerm E [a, b, c, d] 3 11 = 0 := gTerm_yes (by decide)
  have t12 : gTerm E [a, b, c, d] 3 12 = 0 := gTerm_yes (by decide)
  have t13 : gTerm E [a, b, c, d] 3 13 = 0 := gTerm_yes (by decide)
  have t14 : gTerm E [a, b, c, d] 3 14 = 0 := gTerm_yes (by decide)
  have t15 : gTerm E [a, b, c, d] 3 15 = 0 := gTerm_yes (by decide)
  simp only [gSum, List.range_succ, List.range_zero, List.nil_append, List.cons_append, List.map_cons, List.map_nil, List.sum_cons, List.sum_nil, shp, Nat.zero_add, Nat.reduceAdd, t0, t1, t2, t3, t4, t5, t6, t7, t8, t9, t10, t11, t12, t13, t14, t15]
  simp only [fac_0, fac_1, fac_2, fac_3]
  omega
/-- The shares of the game are arrivals. -/
theorem gSum_arr {E : Int} {xs : List Int} (h : caseOkB E xs = true) {k : Nat} (hk : k < xs.length) : gSum E xs k (2 ^ xs.length) * 48 / fac xs.length = arrAt E xs k := by
  have hc := (caseOk_iff E xs).1 h
  have hx := case_nonneg h
  have key : gSum E xs k (2 ^ xs.length) = shp E (xs.getD k 0) (xs.eraseIdx k) 0 0 0 := by
    match xs, hc, hx, k, hk with
    | [a], _, hx, 0, _ => exact gSum_10 hx
    | [a, b], _, hx, 0, _ => exact gSum_20 hx
    | [a, b], _, hx, 1, _ => exact gSum_21 hx
    | [a, b, c], _, hx, 0, _ => exact gSum_30 hx
    | [a, b, c], _, hx, 1, _ => exact gSum_31 hx
    | [a, b, c], _, hx, 2, _ => exact gSum_32 hx
    | [a, b, c, d], _, hx, 0, _ => exact gSum_40 hx
    | [a, b, c, d], _, hx, 1, _ => exact gSum_41 hx
    | [a, b, c, d], _, hx, 2, _ => exact gSum_42 hx
    | [a, b, c, d], _, hx, 3, _ => exact gSum_43 hx
  have e := part_fac hc.1 hc.2.1
  unfold arrAt
  rw [key]
  generalize shp E (xs.getD k 0) (xs.eraseIdx k) 0 0 0 = z
  rcases (show xs.length = 1 ∨ xs.length = 2 ∨ xs.length = 3 ∨ xs.length = 4 from by omega) with e | e | e | e <;> rw [e]
  · simp only [fac_1]; omega
  · simp only [fac_2]; omega
  · simp only [fac_3]; omega
  · simp only [fac_4]; omega
/-! Cut claims and rights. -/
theorem erase_map (f : Int → Int) : ∀ (xs : List Int) (k : Nat), (xs.map f).eraseIdx k = (xs.eraseIdx k).map f
  | [], _ => by simp
  | x :: xs, 0 => by simp
  | x :: xs, k + 1 => by simp [erase_map f xs k]
theorem cutRow_map (E : Int) (xs : List Int) : cutRow E xs = xs.map fun y => min y E := rfl
theorem arr_cut {E : Int} {xs : List Int} (h : caseOkB E xs = true) (k : Nat) : arrAt E (cutRow E xs) k = arrAt E xs k := by
  have hc := (caseOk_iff E xs).1 h
  have e1 : (cutRow E xs).getD k 0 = min (xs.getD k 0) E := cut_getD xs hc.2.2.2.1 k
  unfold arrAt
  rw [e1, cutRow_length, cutRow_map, erase_map, shp_cut hc.2.2.2.1 _ 0 0 0 0 (fun y hy => (hc.2.2.1 y (List.mem_of_mem_eraseIdx hy)).1) (Int.le_refl _) (Int.le_refl _) rfl]
theorem arr_rest {E : Int} {xs : List Int} (h : caseOkB E xs = true) {k : Nat} (hk : k < xs.length) : arrAt (E - (rightsRow E xs).sum) (cutRow (xs.sum - E) xs) k + 48 * (rightsRow E xs).getD k 0 = arrAt E xs k := by
  have hr := rest_ok h
  have ho := other_ok h
  have e1 := arr_other hr (k := k) (by rw [cutRow_length]; exact hk)
  rw [rest_back, arr_cut ho, cut_getD xs (by have := (caseOk_iff _ _).1 ho; omega) k] at e1
  have e2 := arr_other h hk
  rw [getD_of_lt _ k (by rw [rightsRow_length]; exact hk), rightsRow_at E xs k hk, ← getD_of_lt xs k hk]
  omega
/-! What a person brings. -/
theorem brings_rg {E : Int} {xs : List Int} (hx : ∀ k, 0 ≤ xs.getD k 0) {s k : Nat} (hk : k < xs.length) (hb : s.testBit k = false) : 0 ≤ worth E xs (s ||| 2 ^ k : Nat) - worth E xs s ∧ worth E xs (s ||| 2 ^ k : Nat) - worth E xs s ≤ xs.getD k 0 := by
  rw [(brings_is hx hk hb).1]
  have := hx k
  unfold mar; omega
/-- To more people one brings no less. -/
theorem brings_mono {E : Int} {xs : List Int} (hx : ∀ k, 0 ≤ xs.getD k 0) {s t k : Nat} (hk : k < xs.length) (hs : s.testBit k = false) (ht : t.testBit k = false) (hsub : s ||| t = t) :
    worth E xs (s ||| 2 ^ k : Nat) - worth E xs s ≤ worth E xs (t ||| 2 ^ k : Nat) - worth E xs t := by
  rw [(brings_is hx hk hs).1, (brings_is hx hk ht).1]
  have e : (s ||| 2 ^ k) ||| (t ||| 2 ^ k) = t ||| 2 ^ k := by
    refine Nat.eq_of_testBit_eq (fun j => ?_)
    have e1 : (s ||| t).testBit j = t.testBit j := by rw [hsub]
    rw [Nat.testBit_or] at e1
    simp only [Nat.testBit_or]
    revert e1
    cases s.testBit j <;> cases t.testBit j <;> cases (2 ^ k).testBit j <;> simp
  have e2 := (out_or_le hx (s ||| 2 ^ k) (t ||| 2 ^ k) xs.length).1
  rw [e] at e2
  exact mar_less e2

end Go.Proofs.Ytbegdcnljafloaa
