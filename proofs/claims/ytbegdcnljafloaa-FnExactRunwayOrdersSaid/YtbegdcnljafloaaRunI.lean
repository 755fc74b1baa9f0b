/-
  Runways as the program counts them: piece by piece in the order of the needs; sets of those who have come. No condition but that the needs are some.
-/
import Derived.Test.YtbegdcnljafloaaRun
namespace Go.Proofs.Ytbegdcnljafloaa
open Go.RowKit

/-! Pieces. -/
theorem many_take (xs : List Int) (u : Nat) : ∀ k, k ≤ xs.length → manyTo xs u k = ((xs.take k).map fun x => hit x u).sum
  | 0, _ => by simp [manyTo]
  | k + 1, h => by
    rw [List.take_succ_eq_append_getElem (by omega), List.map_append, List.sum_append, ← many_take xs u k (by omega)]
    simp only [manyTo, List.map_cons, List.map_nil, List.sum_cons, List.sum_nil, Int.add_zero]
    rw [getD_of_lt xs k (by omega)]
theorem many_sum (xs : List Int) (u : Nat) : manyTo xs u xs.length = (xs.map fun x => hit x u).sum := by
  rw [many_take xs u _ (Nat.le_refl _), List.take_length]
theorem many_srt (xs : List Int) (u : Nat) : manyTo (srt xs) u (srt xs).length = manyTo xs u xs.length := by
  rw [many_sum, many_sum]; exact sum_perm ((srt_perm xs).map _)
theorem srt_le (xs : List Int) {i j : Nat} (hij : i ≤ j) (hj : j < (srt xs).length) : (srt xs).getD i 0 ≤ (srt xs).getD j 0 := by
  rw [getD_of_lt _ i (by omega), getD_of_lt _ j hj]
  rcases Nat.eq_or_lt_of_le hij with e | e
  · subst e; exact Int.le_refl _
  · exact List.pairwise_iff_getElem.1 (srt_sorted xs) i j (by omega) hj e
theorem srt_has10 {xs : List Int} {k : Nat} (hk : k < xs.length) : ∃ i, i < (srt xs).length ∧ (srt xs).getD i 0 = xs.getD k 0 := by
  have e : xs.getD k 0 ∈ srt xs := mem_srt.2 (by rw [getD_of_lt xs k hk]; exact List.getElem_mem hk)
  obtain ⟨i, hi, e2⟩ := List.mem_iff_getElem.1 e
  exact ⟨i, hi, by rw [getD_of_lt _ i hi, e2]⟩
theorem srt_need {xs : List Int} (h : needB xs = true) (k : Nat) : 0 ≤ (srt xs).getD k 0 ∧ (srt xs).getD k 0 ≤ 12 := by
  by_cases hk : k < (srt xs).length
  · rw [getD_of_lt _ k hk]; exact ((needB_iff xs).1 h).2.2 _ (mem_srt.1 (List.getElem_mem hk))
  · rw [getD_far _ (by omega)]; omega
/-- What is paid when b needs are looked at. -/
def paidTo (xs : List Int) : Nat → Int
  | 0 => 0
  | b + 1 => (srt xs).getD b 0
theorem paid_rg {xs : List Int} (h : needB xs = true) (b : Nat) : 0 ≤ paidTo xs b ∧ paidTo xs b ≤ 12 := by
  cases b with
  | zero => simp [paidTo]
  | succ b => exact srt_need h b
theorem paid_up {xs : List Int} (h : needB xs = true) {b : Nat} (hb : b < (srt xs).length) : paidTo xs b ≤ (srt xs).getD b 0 := by
  cases b with
  | zero => exact (srt_need h 0).1
  | succ b => exact srt_le xs (by omega) hb
theorem many_cut {xs : List Int} {u b : Nat} (h0 : ∀ j, j < b → ¬ (u : Int) < xs.getD j 0) (h1 : ∀ j, b ≤ j → j < xs.length → (u : Int) < xs.getD j 0) : ∀ k, k ≤ xs.length → manyTo xs u k = ((k - b : Nat) : Int)
  | 0, _ => by simp [manyTo]
  | k + 1, hk => by
    simp only [manyTo]
    rw [many_cut h0 h1 k (by omega)]
    rcases Nat.lt_or_ge k b with q | q
    · rw [hit_no (h0 k q)]; omega
    · rw [hit_yes (h1 k q (by omega))]; omega
theorem piece_many {xs : List Int} (_h : needB xs = true) {u b : Nat} (hb : b < xs.length) (h1 : paidTo xs b ≤ (u : Int)) (h2 : (u : Int) < (srt xs).getD b 0) : manyTo xs u xs.length = ((xs.length - b : Nat) : Int) := by
  have hs := srt_length xs
  rw [← many_srt, ← hs]
  refine many_cut (fun j hj => ?_) (fun j hj hj2 => ?_) _ (Nat.le_refl _)
  · match b, hj, h1 with
    | b + 1, hj, h1 =>
      have e := srt_le xs (i := j) (j := b) (by omega) (by omega)
      have e2 : paidTo xs (b + 1) = (srt xs).getD b 0 := rfl
      omega
  · have e := srt_le xs hj hj2
    omega
theorem sumN_flat {f : Nat → Int} {c : Int} {m : Nat} : ∀ n, m ≤ n → (∀ u, m ≤ u → u < n → f u = c) → sumN f n = sumN f m + ((n : Int) - (m : Int)) * c
  | 0, h, _ => by obtain rfl : m = 0 := by omega
                  simp
  | n + 1, h, hf => by
    rcases Nat.lt_or_ge n m with q | q
    · obtain rfl : m = n + 1 := by omega
      simp
    · simp only [sumN]
      rw [sumN_flat n q (fun u a b => hf u a (by omega)), hf n q (by omega), show ((n + 1 : Nat) : Int) - (m : Int) = ((n : Int) - (m : Int)) + 1 from by omega, Int.add_mul]
      omega
theorem piece_sum {xs : List Int} (h : needB xs = true) {b : Nat} (hb : b < xs.length) : sumN (unitP xs) ((srt xs).getD b 0).toNat = sumN (unitP xs) (paidTo xs b).toNat + 48 / ((xs.length : Int) - (b : Int)) * ((srt xs).getD b 0 - paidTo xs b) := by
  have e1 := paid_rg h b
  have e2 := paid_up h (b := b) (by rw [srt_length]; exact hb)
  rw [sumN_flat (m := (paidTo xs b).toNat) (c := 48 / ((xs.length : Int) - (b : Int))) _ (by omega) (fun u h1 h2 => ?_)]
  · rw [Int.mul_comm, show (((srt xs).getD b 0).toNat : Int) - ((paidTo xs b).toNat : Int) = (srt xs).getD b 0 - paidTo xs b from by omega]
  · unfold unitP
    rw [piece_many h hb (by omega) (by omega), show ((xs.length - b : Nat) : Int) = (xs.length : Int) - (b : Int) from by omega]
/-- What one has paid when b needs are looked at. -/
def pieceTo (xs : List Int) (b k : Nat) : Int := sumN (unitP xs) (min (xs.getD k 0) (paidTo xs b)).toNat
theorem piece_zero {xs : List Int} (h : needB xs = true) : fnRow xs.length (pieceTo xs 0) = List.replicate xs.length 0 := by
  rw [← fnRow_zero]
  refine fnRow_congr fun k _ => ?_
  have e := need_rg h k
  show sumN (unitP xs) (min (xs.getD k 0) 0).toNat = 0
  rw [show (min (xs.getD k 0) 0).toNat = 0 from by omega]; rfl
theorem piece_all {xs : List Int} {b : Nat} (hb : b = xs.length) : fnRow xs.length (pieceTo xs b) = shareR xs := by
  subst hb
  refine fnRow_congr fun k hk => ?_
  obtain ⟨i, hi, e⟩ := srt_has10 hk
  have hs := srt_length xs
  unfold pieceTo shareAt
  congr 1
  obtain ⟨m, hm⟩ : ∃ m, xs.length = m + 1 := ⟨xs.length - 1, by omega⟩
  have e2 := srt_le xs (i := i) (j := m) (by omega) (by omega)
  rw [hm, show paidTo xs (m + 1) = (srt xs).getD m 0 from rfl]
  omega
theorem piece_rg {xs : List Int} (h : needB xs = true) (b k : Nat) : 0 ≤ pieceTo xs b k ∧ pieceTo xs b k ≤ 576 := by
  have e := shareTo_rg (need_bd h).2 (min (xs.getD k 0) (paidTo xs b)).toNat
  have e2 := need_rg h k
  unfold pieceTo; omega
theorem part_rg10 {n b : Nat} (h4 : n ≤ 4) (hb : b < n) : 0 ≤ 48 / ((n : Int) - (b : Int)) ∧ 48 / ((n : Int) - (b : Int)) ≤ 48 := by
  have e := part_many (m := (n : Int) - (b : Int)) (by omega) (by omega)
  omega
theorem piece_yes {xs : List Int} (h : needB xs = true) {b k : Nat} {v e P q : Int} (hb : b < xs.length) (hv : v = xs.getD k 0) (he : e = (srt xs).getD b 0) (hq : q = paidTo xs b) (hP : 48 / ((xs.length : Int) - (b : Int)) * (e - q) = P) (hve : v ≥ e) : pieceTo xs (b + 1) k = pieceTo xs b k + P := by
  have e2 := paid_up h (b := b) (by rw [srt_length]; exact hb)
  have e3 := piece_sum h hb
  unfold pieceTo
  rw [show min (xs.getD k 0) (paidTo xs (b + 1)) = (srt xs).getD b 0 from by show min (xs.getD k 0) ((srt xs).getD b 0) = _; omega, show min (xs.getD k 0) (paidTo xs b) = paidTo xs b from by omega, e3, ← he, ← hq, hP]
theorem piece_no {xs : List Int} {b k : Nat} {v e : Int} (hb : b < xs.length) (hk : k < xs.length) (hv : v = xs.getD k 0) (he : e = (srt xs).getD b 0) (hve : ¬ v ≥ e) : pieceTo xs (b + 1) k = pieceTo xs b k := by
  obtain ⟨i, hi, e2⟩ := srt_has10 hk
  have hs := srt_length xs
  have hib : i < b := by
    rcases Nat.lt_or_ge i b with q | q
    · exact q
    · have e3 := srt_le xs q hi; omega
  match b, hib, hb, he with
  | b + 1, hib, hb, he =>
    have e3 := srt_le xs (i := i) (j := b) (by omega) (by omega)
    have e4 := srt_le xs (i := b) (j := b + 1) (by omega) (by omega)
    unfold pieceTo
    show sumN (unitP xs) (min (xs.getD k 0) ((srt xs).getD (b + 1) 0)).toNat = sumN (unitP xs) (min (xs.getD k 0) ((srt xs).getD b 0)).toNat
    congr 1
    omega
/-- The row in the middle of a piece. -/
def pieceMid (xs : List Int) (b j i : Nat) : Int := if i < j then pieceTo xs (b + 1) i else pieceTo xs b i
theorem pieceMid_zero (xs : List Int) (b : Nat) : fnRow xs.length (pieceMid xs b 0) = fnRow xs.length (pieceTo xs b) := fnRow_congr fun _ _ => if_neg (by omega)
theorem pieceMid_all (xs : List Int) (b : Nat) : fnRow xs.length (pieceMid xs b xs.length) = fnRow xs.length (pieceTo xs (b + 1)) := fnRow_congr fun _ h => if_pos h
theorem pieceMid_rg {xs : List Int} (h : needB xs = true) {b j k : Nat} (hk : k < xs.length) : 0 ≤ (fnRow xs.length (pieceMid xs b j)).getD k 0 ∧ (fnRow xs.length (pieceMid xs b j)).getD k 0 ≤ 576 := by
  rw [fnRow_getD _ hk]; unfold pieceMid
  split
  · exact piece_rg h _ _
  · exact piece_rg h _ _
theorem pieceMid_set {xs : List Int} {b j : Nat} {o P : Int} (hj : j < xs.length) (ho : o = (fnRow xs.length (pieceMid xs b j)).getD j 0) (hp : pieceTo xs (b + 1) j = pieceTo xs b j + P) : (fnRow xs.length (pieceMid xs b j)).set j (o + P) = fnRow xs.length (pieceMid xs b (j + 1)) := by
  refine fnRow_set (fun i _ hi => ?_) ?_
  · unfold pieceMid
    by_cases e : i < j
    · rw [if_pos e, if_pos (by omega)]
    · rw [if_neg e, if_neg (by omega)]
  · rw [ho, fnRow_getD _ hj]
    unfold pieceMid
    rw [if_neg (by omega), if_pos (by omega), hp]
theorem pieceMid_keep {xs : List Int} {b j : Nat} (hp : pieceTo xs (b + 1) j = pieceTo xs b j) : fnRow xs.length (pieceMid xs b j) = fnRow xs.length (pieceMid xs b (j + 1)) := by
  refine fnRow_congr fun i _ => ?_
  unfold pieceMid
  by_cases e : i < j
  · rw [if_pos e, if_pos (by omega)]
  · by_cases e2 : i = j
    · subst e2; rw [if_neg (by omega), if_pos (by omega), hp]
    · rw [if_neg e, if_neg (by omega)]

/-! Sets of those who have come. -/
/-- The set of the first p of an order. -/
def comeTo (os : List Int) : Nat → Nat
  | 0 => 0
  | p + 1 => comeTo os p ||| 2 ^ (os.getD p 0).toNat
theorem cost_single {xs : List Int} (h : ∀ k, 0 ≤ xs.getD k 0 ∧ xs.getD k 0 ≤ 12) (j : Nat) : ∀ k, costTo xs ((2 ^ j : Nat) : Int) k = if j < k then xs.getD j 0 else 0
  | 0 => by simp [costTo]
  | k + 1 => by
    rw [cost_succ, cost_single h j k, Nat.testBit_two_pow]
    have e := h k
    have e2 := h j
    by_cases q : j = k
    · subst q
      rw [if_pos (by simp), if_neg (by omega), if_pos (by omega)]; omega
    · rw [if_neg (by simpa using q)]
      by_cases q2 : j < k
      · rw [if_pos q2, if_pos (by omega)]
      · rw [if_neg q2, if_neg (by omega)]
theorem come_cost {xs os : List Int} (h : ∀ k, 0 ≤ xs.getD k 0 ∧ xs.getD k 0 ≤ 12) (n : Nat) : ∀ p, (∀ j, j < p → (os.getD j 0).toNat < n) → costTo xs ((comeTo os p : Nat) : Int) n = longTo xs os p
  | 0, _ => cost_none xs n
  | p + 1, ho => by
    simp only [comeTo, longTo]
    rw [cost_or, come_cost h n p (fun j hj => ho j (by omega)), cost_single h _ n, if_pos (ho p (by omega))]
theorem come_lt {os : List Int} {n : Nat} : ∀ p, (∀ j, j < p → (os.getD j 0).toNat < n) → comeTo os p < 2 ^ n
  | 0, _ => Nat.pow_pos (by omega)
  | p + 1, h => Nat.or_lt_two_pow (come_lt p (fun j hj => h j (by omega))) (Nat.pow_lt_pow_right (by omega) (h p (by omega)))
theorem seen_was {os : List Int} {n i : Nat} (hn : i < n) : ∀ p, (seenAt os n p).getD i false = false → ∀ q, q < p → ¬ (os.getD q 0).toNat = i
  | 0, _, q, hq => by omega
  | p + 1, h, q, hq => by
    intro e
    simp only [seenAt] at h
    by_cases e2 : (os.getD p 0).toNat = i
    · rw [e2] at h
      simp [List.getD, seenAt_length, hn] at h
    · have e3 : (seenAt os n p).getD i false = false := by
        obtain ⟨x, hx⟩ : ∃ x, (os.getD p 0).toNat = x := ⟨_, rfl⟩
        rw [hx] at h e2
        rw [List.getD_eq_getElem?_getD, List.getElem?_set_ne e2] at h
        rw [List.getD_eq_getElem?_getD]; exact h
      rcases Nat.lt_or_ge q p with z | z
      · exact seen_was hn p e3 q z e
      · obtain rfl : q = p := by omega
        exact e2 e
theorem run_none {xs os : List Int} {i : Nat} : ∀ p, (∀ q, q < p → ¬ (os.getD q 0).toNat = i) → runTo xs os i p = 0
  | 0, _ => rfl
  | p + 1, h => by
    simp only [runTo]
    rw [if_neg (h p (by omega)), run_none p (fun q hq => h q (by omega))]; rfl
theorem order_at {n p : Nat} {os : List Int} (ho : orderB n os = true) (hp : p < n) : 0 ≤ os.getD p 0 ∧ os.getD p 0 < (n : Int) ∧ (os.getD p 0).toNat < n := by
  obtain ⟨hl, hto⟩ := order_iff ho
  obtain ⟨h1, h2, _⟩ := hto p (by omega)
  exact ⟨h1, h2, by omega⟩
theorem order_new {xs os : List Int} {n p : Nat} (ho : orderB n os = true) (hp : p < n) : runTo xs os (os.getD p 0).toNat p = 0 := by
  obtain ⟨hl, hto⟩ := order_iff ho
  obtain ⟨h1, h2, h3⟩ := hto p (by omega)
  exact run_none p (seen_was (n := n) (by omega) p h3)
theorem come_step {xs os : List Int} {n p x : Nat} {M L : Int} (ho : orderB n os = true) (hp : p < n) (hv : (x : Int) = os.getD p 0) (hL : L = longTo xs os p) (hM : M = longTo xs os (p + 1)) : (fnRow n (fun i => runTo xs os i p)).set x (48 * (M - L)) = fnRow n (fun i => runTo xs os i (p + 1)) := by
  have hx : (os.getD p 0).toNat = x := by rw [← hv]; simp
  have e := order_new (xs := xs) ho hp
  rw [hx] at e
  refine fnRow_set (fun i _ hi => ?_) ?_
  · simp only [runTo]; rw [if_neg (by rw [hx]; exact fun z => hi z.symm)]; omega
  · simp only [runTo]; rw [if_pos hx, e, hM, hL]
    simp only [longTo]; rw [hx]; omega

end Go.Proofs.Ytbegdcnljafloaa
