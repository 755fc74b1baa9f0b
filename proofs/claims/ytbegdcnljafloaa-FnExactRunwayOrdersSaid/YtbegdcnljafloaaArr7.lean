/-
  Chapter 7 in plain mathematics: awards by an order are awards, first ones and orders from behind; arrivals and halves under other names; no awards that keep the order are less even than even losses; two people. No condition but those of a case.
-/
import Derived.Test.YtbegdcnljafloaaSpec7C
import Derived.Test.YtbegdcnljafloaaHalf
import Derived.Test.YtbegdcnljafloaaGE
import Derived.Test.YtbegdcnljafloaaGC
namespace Go.Proofs.Ytbegdcnljafloaa
open Go.RowKit

theorem vals_perm' {xs : List Int} {ps : List Nat} (h : ps.Perm (List.range xs.length)) : (valsAt xs ps).Perm xs := by
  have e : valsAt xs (List.range xs.length) = xs := by
    apply List.ext_getElem (by simp [valsAt])
    intro j hj hj'
    simp [valsAt, List.getD, List.getElem?_eq_getElem hj']
  have p : (valsAt xs ps).Perm (valsAt xs (List.range xs.length)) := h.map _
  rw [e] at p
  exact p
theorem perms_perm : ∀ n, n ≤ 4 → ∀ os ∈ perms n, (os.map Int.toNat).isPerm (List.range n) = true
  | 0, _ => by decide +kernel
  | 1, _ => by decide +kernel
  | 2, _ => by decide +kernel
  | 3, _ => by decide +kernel
  | 4, _ => by decide +kernel
  | k + 5, h => by omega
theorem perms_rev : ∀ n, n ≤ 4 → ∀ os ∈ perms n, os.reverse ∈ perms n
  | 0, _ => by decide +kernel
  | 1, _ => by decide +kernel
  | 2, _ => by decide +kernel
  | 3, _ => by decide +kernel
  | 4, _ => by decide +kernel
  | k + 5, h => by omega
/-- The places of an order. -/
def plc (os : List Int) : List Nat := os.map Int.toNat
theorem plc_length (os : List Int) : (plc os).length = os.length := by simp [plc]
theorem plc_getD (os : List Int) (k : Nat) : (plc os).getD k 0 = (os.getD k 0).toNat := by
  by_cases h : k < os.length
  · simp [plc, List.getD, List.getElem?_eq_getElem h]
  · simp [plc, List.getD, List.getElem?_eq_none (show os.length ≤ k by omega)]
theorem order_perm {n : Nat} {os : List Int} (h1 : 1 ≤ n) (h4 : n ≤ 4) (h : orderB n os = true) : (plc os).Perm (List.range n) := List.isPerm_iff.1 (perms_perm n h4 os (order_in h1 h4 h))
theorem valsAt_getD (xs : List Int) (ps : List Nat) {k : Nat} (h : k < ps.length) : (valsAt xs ps).getD k 0 = xs.getD (ps.getD k 0) 0 := by
  simp [valsAt, List.getD, List.getElem?_eq_getElem h]
theorem bef_is (xs os : List Int) : ∀ k, k ≤ os.length → bef xs os k = ((valsAt xs (plc os)).take k).sum
  | 0, _ => by simp [bef]
  | k + 1, h => by
    have hl : k < (valsAt xs (plc os)).length := by rw [valsAt_length, plc_length]; omega
    rw [sum_snoc _ k hl, ← bef_is xs os k (by omega), ← getD_of_lt _ k hl, valsAt_getD _ _ (by rw [plc_length]; omega), plc_getD]
    rfl
theorem case_people {E : Int} {xs : List Int} (h : caseOkB E xs = true) : 1 ≤ xs.length ∧ xs.length ≤ 4 := by have e := caseOk_bd h; omega
theorem bef_all {xs os : List Int} (h1 : 1 ≤ xs.length) (h4 : xs.length ≤ 4) (ho : orderB xs.length os = true) : bef xs os os.length = xs.sum := by
  rw [bef_is xs os _ (Nat.le_refl _), List.take_of_length_le (by rw [valsAt_length, plc_length]; exact Nat.le_refl _)]
  exact sum_perm (vals_perm' (order_perm h1 h4 ho))
theorem place_of {n : Nat} {os : List Int} (h1 : 1 ≤ n) (h4 : n ≤ 4) (ho : orderB n os = true) {j : Nat} (hj : j < n) : ∃ p, p < os.length ∧ (os.getD p 0).toNat = j := by
  have e : j ∈ plc os := (order_perm h1 h4 ho).mem_iff.2 (List.mem_range.2 hj)
  obtain ⟨p, hp, e2⟩ := List.getElem_of_mem e
  rw [plc_length] at hp
  refine ⟨p, hp, ?_⟩
  rw [← plc_getD, List.getD, List.getElem?_eq_getElem (by rw [plc_length]; exact hp)]
  exact e2
theorem pos_sum {E : Int} {xs os : List Int} (h0 : 0 ≤ E) (hx : ∀ k, 0 ≤ xs.getD k 0) : ∀ k, k ≤ os.length → ((posRow E xs os).take k).sum = 48 * (E - leftTo E xs os k)
  | 0, _ => by rw [left_zero h0]; simp
  | k + 1, h => by
    have hl : k < (posRow E xs os).length := by rw [posRow_length]; omega
    have e := mar_left (E := E) (hx (os.getD k 0).toNat) (bef_pos hx (os := os) k)
    rw [sum_snoc _ k hl, pos_sum h0 hx k (by omega), ← getD_of_lt _ k hl, posRow_getD _ _ _ _ (by omega)]
    simp only [leftTo, posAt, bef] at *
    omega
theorem ordAw_aw {E : Int} {xs os : List Int} (h : caseOkB E xs = true) (ho : orderB xs.length os = true) : Aw E xs (ordAw E xs os) := by
  obtain ⟨h1, h4⟩ := case_people h
  obtain ⟨hl, hto⟩ := order_iff ho
  have hb := caseOk_bd h
  refine ⟨h, ordAw_length _ _ _, fun k hk hk' => ?_, ?_⟩
  · obtain ⟨p, hp, e⟩ := place_of h1 h4 ho hk'
    have e2 := ordAw_at (E := E) hto hp e
    have e3 := mar_rg (E := E) (u := xs.getD k 0) (o := bef xs os p) (case_nonneg h k)
    rw [getD_of_lt _ k hk] at e2
    rw [e2, posAt, e, ← getD_of_lt xs k hk']
    omega
  · have e := placed_sum (posRow E xs os) os xs.length os.length (by rw [posRow_length]; exact Nat.le_refl _) hto
    show (placed (posRow E xs os) os xs.length os.length).sum = _
    rw [e, pos_sum hb.2.2.1 (case_nonneg h) _ (Nat.le_refl _), leftTo, bef_all h1 h4 ho]
    omega
theorem ordAw_first {E : Int} {xs os : List Int} {j : Nat} (h : caseOkB E xs = true) (ho : orderB xs.length os = true) (hj : os.getD 0 0 = (j : Int)) : (ordAw E xs os).getD j 0 = 48 * min (xs.getD j 0) E := by
  obtain ⟨h1, h4⟩ := case_people h
  obtain ⟨hl, hto⟩ := order_iff ho
  have hb := caseOk_bd h
  have e := ordAw_at (E := E) (p := 0) (j := j) hto (by omega) (by rw [hj]; rfl)
  rw [e, posAt, hj]
  simp only [bef, mar, Int.toNat_natCast]
  omega
theorem order_rev {n : Nat} {os : List Int} (h1 : 1 ≤ n) (h4 : n ≤ 4) (ho : orderB n os = true) : orderB n os.reverse = true := perms_order h4 (perms_rev n h4 os (order_in h1 h4 ho))
theorem bef_rev {xs os : List Int} (h1 : 1 ≤ xs.length) (h4 : xs.length ≤ 4) (ho : orderB xs.length os = true) {p : Nat} (hp : p < os.length) :
    xs.sum = bef xs os p + xs.getD (os.getD p 0).toNat 0 + bef xs os.reverse (os.length - 1 - p) := by
  have e1 : bef xs os p + xs.getD (os.getD p 0).toNat 0 = bef xs os (p + 1) := rfl
  have e2 : valsAt xs (plc os.reverse) = (valsAt xs (plc os)).reverse := by simp [valsAt, plc]
  have hl : (valsAt xs (plc os)).length = os.length := by rw [valsAt_length, plc_length]
  rw [e1, bef_is xs os _ (by omega), bef_is xs os.reverse _ (by rw [List.length_reverse]; omega), e2, List.take_reverse, sum_perm (List.reverse_perm _), hl, show os.length - (os.length - 1 - p) = p + 1 by omega, ← List.sum_append, List.take_append_drop]
  exact (sum_perm (vals_perm' (order_perm h1 h4 ho))).symm
theorem getD_reverse (os : List Int) {p : Nat} (hp : p < os.length) : os.reverse.getD (os.length - 1 - p) 0 = os.getD p 0 := by
  simp only [List.getD]
  rw [List.getElem?_reverse (by omega), show os.length - 1 - (os.length - 1 - p) = p by omega]
theorem row_ext {ys zs : List Int} (hl : ys.length = zs.length) (h : ∀ k, k < ys.length → ys.getD k 0 = zs.getD k 0) : ys = zs :=
  List.ext_getElem hl fun k h1 h2 => by have e := h k h1; rwa [getD_of_lt ys k h1, getD_of_lt zs k h2] at e
theorem ordAw_back {E : Int} {xs os : List Int} (h : caseOkB E xs = true) (ho : orderB xs.length os = true) : lossesRow xs (ordAw E xs os) = ordAw (xs.sum - E) xs os.reverse := by
  obtain ⟨h1, h4⟩ := case_people h
  obtain ⟨hl, hto⟩ := order_iff ho
  obtain ⟨hl', hto'⟩ := order_iff (order_rev h1 h4 ho)
  refine row_ext (by rw [lossesRow_length (ordAw_length _ _ _), ordAw_length, ordAw_length]) fun j hj => ?_
  rw [lossesRow_length (ordAw_length _ _ _), ordAw_length] at hj
  obtain ⟨p, hp, e⟩ := place_of h1 h4 ho hj
  rw [loss_getD (ordAw_length _ _ _) j hj, ordAw_at hto hp e, ordAw_at (p := os.length - 1 - p) (j := j) hto' (by rw [List.length_reverse]; omega) (by rw [getD_reverse os hp]; exact e)]
  unfold posAt
  rw [getD_reverse os hp, e]
  have e2 := bef_rev h1 h4 ho hp
  rw [e] at e2
  have e3 := mar_other (E := E) (case_nonneg h j) e2
  omega
theorem ordRow_yes {E : Int} {xs os : List Int} (h : caseOkB E xs = true) (ho : orderB xs.length os = true) : ordRow E xs os = ordAw E xs os := if_pos ⟨h, ho⟩
theorem ordRow_some {E : Int} {xs os : List Int} (h : ¬ (ordRow E xs os).length = 0) : caseOkB E xs = true ∧ orderB xs.length os = true := by
  by_cases e : caseOkB E xs = true ∧ orderB xs.length os = true
  · exact e
  · rw [ordRow, if_neg e] at h; exact absurd rfl h
theorem ordRow_len (E : Int) (xs os : List Int) : (ordRow E xs os).length ≤ 4 := by
  unfold ordRow; split
  · rename_i h; rw [ordAw_length]; exact (caseOk_bd h.1).2.1
  · simp
theorem take_rev_succ {os : List Int} {k : Nat} {v : Int} (hk : k < os.length) (hv : v = os.getD k 0) : (os.take (k + 1)).reverse = [v] ++ (os.take k).reverse := by
  rw [List.take_succ_eq_append_getElem hk, List.reverse_append, hv, getD_of_lt os k hk]; rfl
theorem arrRow_yes {E : Int} {xs : List Int} (h : caseOkB E xs = true) : arrRow E xs = arr E xs := if_pos h
theorem arrRow_len (E : Int) (xs : List Int) : (arrRow E xs).length ≤ 4 := by
  unfold arrRow; split
  · rename_i h; rw [arr_length]; exact (caseOk_bd h).2.1
  · simp
theorem arrRow_some {E : Int} {xs : List Int} (h : ¬ (arrRow E xs).length = 0) : caseOkB E xs = true := by
  by_cases e : caseOkB E xs = true
  · exact e
  · rw [arrRow, if_neg e] at h; exact absurd rfl h
theorem arrRow_no {E : Int} {xs : List Int} (h : (arrRow E xs).length = 0) : caseOkB E xs = false := by
  cases e : caseOkB E xs with
  | false => rfl
  | true => rw [arrRow_yes e, arr_length] at h; have e2 := caseOk_bd e; omega
/-! Arrivals. -/
theorem arr_aw {E : Int} {xs : List Int} (h : caseOkB E xs = true) : Aw E xs (arr E xs) := by
  refine ⟨h, arr_length _ _, fun k hk hk' => ?_, arr_sum h⟩
  have e := arr_rg h hk'
  rw [← getD_of_lt _ k hk, arr_getD E xs k hk', ← getD_of_lt xs k hk']
  exact e
theorem arr_loss {E : Int} {xs : List Int} (h : caseOkB E xs = true) : lossesRow xs (arr E xs) = arr (xs.sum - E) xs := by
  refine row_ext (by rw [lossesRow_length (arr_length _ _), arr_length, arr_length]) fun k hk => ?_
  rw [lossesRow_length (arr_length _ _), arr_length] at hk
  rw [loss_getD (arr_length _ _) k hk, arr_getD E xs k hk, arr_getD _ xs k hk]
  exact arr_other h hk
theorem arr_keepsB {E : Int} {xs : List Int} (h : caseOkB E xs = true) : keepsB E xs (arr E xs) = true := by
  refine (keepsB_iff _ _ _).2 ⟨(awardsB_iff _ _ _).2 (arr_aw h), fun i j hi hj hle => ?_⟩
  rw [arr_loss h, arr_getD E xs i hi, arr_getD E xs j hj, arr_getD _ xs i hi, arr_getD _ xs j hj]
  exact ⟨arr_keeps h hi hj hle, arr_keeps (other_ok h) hi hj hle⟩
theorem arr_equal {E : Int} {xs : List Int} (h : caseOkB E xs = true) {i j : Nat} (hi : i < xs.length) (hj : j < xs.length) (he : xs.getD i 0 = xs.getD j 0) : (arr E xs).getD i 0 = (arr E xs).getD j 0 := by
  rw [arr_getD E xs i hi, arr_getD E xs j hj]
  exact Int.le_antisymm (arr_keeps h hi hj (by omega)) (arr_keeps h hj hi (by omega))
theorem arr_nothing {E : Int} {xs : List Int} {k : Nat} (hk : k < xs.length) (h0 : xs.getD k 0 = 0) : (arr E xs).getD k 0 = 0 := by rw [arr_getD E xs k hk, arrAt_zero h0]
theorem arr_cut_row {E : Int} {xs : List Int} (h : caseOkB E xs = true) : arr E (cutRow E xs) = arr E xs :=
  row_ext (by rw [arr_length, arr_length, cutRow_length]) fun k hk => by
    rw [arr_length, cutRow_length] at hk
    rw [arr_getD _ _ _ (by rw [cutRow_length]; exact hk), arr_getD _ _ _ hk, arr_cut h]
/-! Names. -/
theorem placed_perm {R os : List Int} (h1 : 1 ≤ R.length) (h4 : R.length ≤ 4) (ho : orderB R.length os = true) : (placed R os R.length R.length).Perm R := by
  obtain ⟨hl, hto⟩ := order_iff ho
  have hp := order_perm h1 h4 ho
  have e : valsAt (placed R os R.length R.length) (plc os) = R := by
    refine row_ext (by rw [valsAt_length, plc_length, hl]) fun k hk => ?_
    rw [valsAt_length, plc_length] at hk
    rw [valsAt_getD _ _ (by rw [plc_length]; exact hk), plc_getD]
    exact placed_at R os R.length R.length (fun j hj => hto j (by omega)) k (by omega)
  have p := vals_perm' (xs := placed R os R.length R.length) (ps := plc os) (by rw [placed_length]; exact hp)
  rw [e] at p
  exact p.symm
theorem arr_named {E : Int} {xs os : List Int} (h : caseOkB E xs = true) (ho : orderB xs.length os = true) {k : Nat} (hk : k < xs.length) : (arr E (placed xs os xs.length xs.length)).getD (os.getD k 0).toNat 0 = (arr E xs).getD k 0 := by
  obtain ⟨h1, h4⟩ := case_people h
  obtain ⟨hl, hto⟩ := order_iff ho
  have hr := hto k (by omega)
  have hy : (os.getD k 0).toNat < xs.length := by have e1 := hr.1; have e2 := hr.2.1; omega
  rw [arr_getD _ _ _ (by rw [placed_length]; exact hy), arr_getD _ _ _ hk]
  exact arrAt_perm (placed_perm h1 h4 ho) hk (by rw [placed_length]; exact hy) (placed_at xs os xs.length xs.length (fun j hj => hto j (by omega)) k hk)
theorem half_named {E : Int} {xs os : List Int} (h : caseOkB E xs = true) (ho : orderB xs.length os = true) (hc : caseOkB E (placed xs os xs.length xs.length) = true) : placed (halfAw E xs) os xs.length xs.length = halfAw E (placed xs os xs.length xs.length) := by
  obtain ⟨h1, h4⟩ := case_people h
  obtain ⟨hl, hto⟩ := order_iff ho
  have hto' : OrdTo os xs.length xs.length := fun j hj => hto j (by omega)
  have hhl := halfAw_length E xs
  have ha := half_aw h
  have hg := ((agreeB_iff _ _ _).1 (half_agree h)).2
  have at1 := placed_at xs os xs.length xs.length hto'
  have at2 := placed_at (halfAw E xs) os xs.length xs.length hto'
  apply half_is
  refine (agreeB_iff _ _ _).2 ⟨(awardsB_iff _ _ _).2 ⟨hc, by rw [placed_length, placed_length], fun k hk hk' => ?_, ?_⟩, fun i j hi hj => ?_⟩
  · rw [placed_length] at hk
    obtain ⟨p, hp, e⟩ := place_of h1 h4 ho hk
    have e1 := at1 p (by omega)
    have e2 := at2 p (by omega)
    rw [e] at e1 e2
    have e3 := ha.2.2.1 p (by omega) (by omega)
    rw [← getD_of_lt _ p (show p < (halfAw E xs).length by omega), ← getD_of_lt xs p (by omega)] at e3
    rw [← getD_of_lt _ k (by rw [placed_length]; exact hk), ← getD_of_lt _ k (by rw [placed_length]; exact hk), e1, e2]
    exact e3
  · rw [placed_sum (halfAw E xs) os xs.length xs.length (by omega) hto', List.take_of_length_le (by omega)]
    exact ha.2.2.2
  · rw [placed_length] at hi
    obtain ⟨p, hp, e⟩ := place_of h1 h4 ho hi
    obtain ⟨q, hq, e'⟩ := place_of h1 h4 ho (show j < xs.length by omega)
    have e1 := at1 p (by omega)
    have e2 := at2 p (by omega)
    have e3 := at1 q (by omega)
    have e4 := at2 q (by omega)
    rw [e] at e1 e2
    rw [e'] at e3 e4
    have e5 := hg.two p q (by omega) (by omega)
    unfold AgreeAt at *
    rw [e1, e2, e3, e4]
    exact e5
theorem half_named_at {E : Int} {xs os : List Int} (h : caseOkB E xs = true) (ho : orderB xs.length os = true) (hc : caseOkB E (placed xs os xs.length xs.length) = true) {k : Nat} (hk : k < xs.length) : (halfAw E (placed xs os xs.length xs.length)).getD (os.getD k 0).toNat 0 = (halfAw E xs).getD k 0 := by
  obtain ⟨hl, hto⟩ := order_iff ho
  rw [← half_named h ho hc]
  exact placed_at (halfAw E xs) os xs.length xs.length (fun j hj => hto j (by omega)) k hk
/-! No awards that keep the order are less even than even losses. -/
theorem sort_of (xs : List Int) : ∃ ps : List Nat, ps.Perm (List.range xs.length) ∧ (valsAt xs ps).Pairwise (· ≤ ·) := by
  refine ⟨(List.range xs.length).mergeSort fun p q => decide (xs.getD p 0 ≤ xs.getD q 0), List.mergeSort_perm _ _, ?_⟩
  have e := List.pairwise_mergeSort (le := fun p q => decide (xs.getD p 0 ≤ xs.getD q 0)) (fun a b c h1 h2 => by simp only [decide_eq_true_eq] at *; omega) (fun a b => by simp only [Bool.or_eq_true, decide_eq_true_eq]; omega) (List.range xs.length)
  unfold valsAt
  rw [List.pairwise_map]
  exact e.imp fun h => by simpa using h
theorem keeps_sorted {xs ys : List Int} {ps : List Nat} (hp : ps.Perm (List.range xs.length)) (hs : (valsAt xs ps).Pairwise (· ≤ ·)) (hl : ys.length = xs.length) (hk : ∀ i j, i < xs.length → j < xs.length → xs.getD i 0 ≤ xs.getD j 0 → ys.getD i 0 ≤ ys.getD j 0) : srt ys = valsAt ys ps := by
  refine srt_of (vals_perm' (by rw [hl]; exact hp)) ?_
  unfold valsAt at *
  rw [List.pairwise_map] at *
  refine hs.imp_of_mem fun {a b} ha hb h => hk a b ?_ ?_ h
  · exact List.mem_range.1 (hp.mem_iff.1 ha)
  · exact List.mem_range.1 (hp.mem_iff.1 hb)
theorem vals_loss {xs ys : List Int} {ps : List Nat} (hp : ps.Perm (List.range xs.length)) (hl : ys.length = xs.length) (k : Nat) : ((valsAt (lossesRow xs ys) ps).take k).sum = 48 * ((valsAt xs ps).take k).sum - ((valsAt ys ps).take k).sum := by
  have key : ∀ qs : List Nat, (∀ q ∈ qs, q < xs.length) → (valsAt (lossesRow xs ys) qs).sum = 48 * (valsAt xs qs).sum - (valsAt ys qs).sum := by
    intro qs hq
    induction qs with
    | nil => simp [valsAt]
    | cons q qs ih =>
      have e := ih fun r hr => hq r (by simp [hr])
      have e2 := loss_getD hl q (hq q (by simp))
      simp only [valsAt, List.map_cons, List.sum_cons] at *
      rw [e, e2]; omega
  have e := key (ps.take k) fun q hq => List.mem_range.1 (hp.mem_iff.1 (List.mem_of_mem_take hq))
  simp only [valsAt, List.map_take] at *
  exact e
theorem more_least {E : Int} {xs ys : List Int} (h : keepsB E xs ys = true) : More ys (evenLo E xs) := by
  obtain ⟨ha, hk⟩ := (keepsB_iff _ _ _).1 h
  have hA := (awardsB_iff _ _ _).1 ha
  have hc := hA.1
  obtain ⟨h1, h4⟩ := case_people hc
  have hz := (keepsB_iff _ _ _).1 (keeps_lo hc)
  have hZ := (awardsB_iff _ _ _).1 hz.1
  have hm := evenLo_more hA
  have hy := hA.2.1
  have hzl := hZ.2.1
  obtain ⟨ps, hp, hs⟩ := sort_of xs
  have s1 := keeps_sorted hp hs hy fun i j hi hj hle => (hk i j hi hj hle).1
  have s2 := keeps_sorted hp hs hzl fun i j hi hj hle => (hz.2 i j hi hj hle).1
  have s3 := keeps_sorted (ys := lossesRow xs ys) hp hs (by rw [lossesRow_length hy, hy]) fun i j hi hj hle => (hk i j hi hj hle).2
  have s4 := keeps_sorted (ys := lossesRow xs (evenLo E xs)) hp hs (by rw [lossesRow_length hzl, hzl]) fun i j hi hj hle => (hz.2 i j hi hj hle).2
  have hlo : lossesRow xs (evenLo E xs) = evenAw (xs.sum - E) xs := loss_twice xs _ (evenAw_length _ _)
  refine ⟨by rw [hy, hzl], by omega, by omega, by rw [hA.2.2.2, hZ.2.2.2], fun k hk' => ?_⟩
  have e := hm.2.2.2.2 k (by rw [evenAw_length]; omega)
  rw [← hlo, s3, s4, vals_loss hp hy, vals_loss hp hzl] at e
  rw [s1, s2]
  omega
theorem arrRow_rg (E : Int) (xs : List Int) (k : Nat) : 0 ≤ (arrRow E xs).getD k 0 ∧ (arrRow E xs).getD k 0 ≤ 2304 := by
  by_cases h : caseOkB E xs = true
  · rw [arrRow_yes h]
    by_cases hk : k < xs.length
    · have e := arr_rg h hk
      have e2 := (case_rg h k).2
      rw [arr_getD E xs k hk]; omega
    · rw [getD_far _ (by rw [arr_length]; omega)]; omega
  · rw [arrRow, if_neg h]; simp
theorem rights_rg {E : Int} {xs : List Int} (h : caseOkB E xs = true) (k : Nat) : 0 ≤ (rightsRow E xs).getD k 0 ∧ (rightsRow E xs).getD k 0 ≤ 48 := by
  have hb := caseOk_bd h
  by_cases hk : k < xs.length
  · have e := case_at h k hk
    rw [getD_of_lt _ k (by rw [rightsRow_length]; exact hk)]
    simp only [rightsRow, List.getElem_map]
    omega
  · rw [getD_far _ (by rw [rightsRow_length]; omega)]; omega
theorem arr_rest_row {E : Int} {xs : List Int} (h : caseOkB E xs = true) (hr : caseOkB (E - (rightsRow E xs).sum) (restRow E xs) = true) {k : Nat} (hk : k < xs.length) : (arrRow (E - (rightsRow E xs).sum) (restRow E xs)).getD k 0 + 48 * (rightsRow E xs).getD k 0 = (arrRow E xs).getD k 0 := by
  rw [arrRow_yes h, arrRow_yes hr, arr_getD E xs k hk, arr_getD _ _ k (by rw [restRow_length]; exact hk), rest_is_cut]
  exact arr_rest h hk
theorem rest_case {E : Int} {xs : List Int} (h : caseOkB E xs = true) : caseOkB (E - (rightsRow E xs).sum) (restRow E xs) = true := by rw [rest_is_cut]; exact rest_ok h
theorem arrRow_cut {E : Int} {xs : List Int} (h : caseOkB E xs = true) (hc : caseOkB E (cutRow E xs) = true) : arrRow E (cutRow E xs) = arrRow E xs := by rw [arrRow_yes h, arrRow_yes hc, arr_cut_row h]
theorem evenLos_yes {E : Int} {xs : List Int} (h : caseOkB E xs = true) : evenLos E xs = evenLo E xs := if_pos h
theorem evenLos_some {E : Int} {xs : List Int} (h : ¬ (evenLos E xs).length = 0) : caseOkB E xs = true := by
  by_cases e : caseOkB E xs = true
  · exact e
  · rw [evenLos, if_neg e] at h; exact absurd rfl h
theorem arr_named_row {E : Int} {xs os : List Int} (h : caseOkB E xs = true) (ho : orderB xs.length os = true) (hc : caseOkB E (placed xs os xs.length xs.length) = true) {k x : Nat} (hk : k < xs.length) (hx : os.getD k 0 = (x : Int)) : (arrRow E (placed xs os xs.length xs.length)).getD x 0 = (arrRow E xs).getD k 0 := by
  have e := arr_named h ho hk
  rw [hx, Int.toNat_natCast] at e
  rw [arrRow_yes h, arrRow_yes hc, e]
theorem half_named_row {E : Int} {xs os : List Int} (h : caseOkB E xs = true) (ho : orderB xs.length os = true) (hc : caseOkB E (placed xs os xs.length xs.length) = true) {k x : Nat} (hk : k < xs.length) (hx : os.getD k 0 = (x : Int)) : (halfAw E (placed xs os xs.length xs.length)).getD x 0 = (halfAw E xs).getD k 0 := by
  have e := half_named_at h ho hc hk
  rw [hx, Int.toNat_natCast] at e
  exact e
/-! What a person brings. -/
theorem bringsOf_bd (E : Int) (xs : List Int) (p s : Int) : -1 ≤ bringsOf E xs p s ∧ bringsOf E xs p s ≤ 48 := by
  unfold bringsOf; split
  · rename_i h
    obtain ⟨hc, ⟨hp0, hp1⟩, ⟨hs0, hs1⟩, hb⟩ := h
    obtain ⟨k, rfl⟩ := Int.eq_ofNat_of_zero_le hp0
    obtain ⟨m, rfl⟩ := Int.eq_ofNat_of_zero_le hs0
    simp only [Int.toNat_natCast] at *
    have e := brings_in (E := E) hc (k := k) (m := m) (by omega) (by rcases Bool.eq_false_or_eq_true (m.testBit k) with e | e; exact absurd ((bit_nat m k).2 e) hb; exact e)
    omega
  · omega
theorem bringsOf_neg {E : Int} {xs : List Int} {p s : Int} (h : bringsOf E xs p s < 0) : bringsOf E xs p s = -1 := by
  unfold bringsOf at *; split at h
  · rename_i c
    have e := bringsOf_bd E xs p s
    obtain ⟨hc, ⟨hp0, hp1⟩, ⟨hs0, hs1⟩, hb⟩ := c
    obtain ⟨k, rfl⟩ := Int.eq_ofNat_of_zero_le hp0
    obtain ⟨m, rfl⟩ := Int.eq_ofNat_of_zero_le hs0
    simp only [Int.toNat_natCast] at *
    have e := brings_in (E := E) hc (k := k) (m := m) (by omega) (by rcases Bool.eq_false_or_eq_true (m.testBit k) with e | e; exact absurd ((bit_nat m k).2 e) hb; exact e)
    omega
  · rw [if_neg (by assumption)]
theorem bringsOf_some {E : Int} {xs : List Int} {p s : Int} (h : ¬ bringsOf E xs p s < 0) : caseOkB E xs = true ∧ ∃ k m : Nat, p = (k : Int) ∧ s = (m : Int) ∧ k < xs.length ∧ m < 2 ^ xs.length ∧ m.testBit k = false := by
  by_cases c : caseOkB E xs = true ∧ (0 ≤ p ∧ p ≤ (xs.length : Int) - 1) ∧ (0 ≤ s ∧ s ≤ 2 ^ xs.length - 1) ∧ ¬ s / 2 ^ p.toNat % 2 = 1
  · obtain ⟨hc, ⟨hp0, hp1⟩, ⟨hs0, hs1⟩, hb⟩ := c
    obtain ⟨k, rfl⟩ := Int.eq_ofNat_of_zero_le hp0
    obtain ⟨m, rfl⟩ := Int.eq_ofNat_of_zero_le hs0
    refine ⟨hc, k, m, rfl, rfl, by omega, nat_lt_pow (by omega), ?_⟩
    rw [Int.toNat_natCast] at hb
    rcases Bool.eq_false_or_eq_true (m.testBit k) with e | e
    · exact absurd ((bit_nat m k).2 e) hb
    · exact e
  · rw [bringsOf, if_neg c] at h; exact absurd (by omega) h
theorem brings_claim {E : Int} {xs : List Int} {k m : Nat} (h : caseOkB E xs = true) (hk : k < xs.length) (hm : m < 2 ^ xs.length) (hb : m.testBit k = false) : bringsOf E xs (k : Int) (m : Int) ≤ xs.getD k 0 := by
  rw [bringsOf_is h hk hm hb]; exact (brings_rg (case_nonneg h) hk hb).2
theorem brings_wide {E : Int} {xs : List Int} {k m t : Nat} (h : caseOkB E xs = true) (hk : k < xs.length) (hm : m < 2 ^ xs.length) (hb : m.testBit k = false) (ht : t < 2 ^ xs.length) (hbt : t.testBit k = false) (hs : m ||| t = t) : bringsOf E xs (k : Int) (m : Int) ≤ bringsOf E xs (k : Int) (t : Int) := by
  rw [bringsOf_is h hk hm hb, bringsOf_is h hk ht hbt]; exact brings_mono (case_nonneg h) hk hb hbt hs
theorem wide_fin : ∀ n : Fin 5, ∀ s r : Fin 16, ∀ k : Fin 4, s.val < 2 ^ n.val → r.val < 2 ^ n.val → k.val < n.val → s.val.testBit k.val = false →
    bits .andNot .i64 (bits .or .i64 (s.val : Int) (r.val : Int)) (2 ^ k.val) = ((bits .andNot .i64 (bits .or .i64 (s.val : Int) (r.val : Int)) (2 ^ k.val)).toNat : Int) ∧ (bits .andNot .i64 (bits .or .i64 (s.val : Int) (r.val : Int)) (2 ^ k.val)).toNat < 2 ^ n.val ∧
    (bits .andNot .i64 (bits .or .i64 (s.val : Int) (r.val : Int)) (2 ^ k.val)).toNat.testBit k.val = false ∧ s.val ||| (bits .andNot .i64 (bits .or .i64 (s.val : Int) (r.val : Int)) (2 ^ k.val)).toNat = (bits .andNot .i64 (bits .or .i64 (s.val : Int) (r.val : Int)) (2 ^ k.val)).toNat := by decide +kernel
theorem wide_is {n m k : Nat} {R : Int} (hn : n ≤ 4) (hm : m < 2 ^ n) (hR : 0 ≤ R ∧ R < 2 ^ n) (hk : k < n) (hb : m.testBit k = false) :
    ∃ t : Nat, bits .andNot .i64 (bits .or .i64 (m : Int) R) (2 ^ k) = (t : Int) ∧ t < 2 ^ n ∧ t.testBit k = false ∧ m ||| t = t := by
  obtain ⟨r, rfl⟩ := Int.eq_ofNat_of_zero_le hR.1
  have hr : r < 2 ^ n := nat_lt_pow hR.2
  have h16 : (2 : Nat) ^ n ≤ 2 ^ 4 := Nat.pow_le_pow_right (by omega) hn
  have e := wide_fin ⟨n, by omega⟩ ⟨m, by omega⟩ ⟨r, by omega⟩ ⟨k, by omega⟩ hm hr hk hb
  exact ⟨_, e.1, e.2.1, e.2.2.1, e.2.2.2⟩
theorem arr_small {E : Int} {xs : List Int} (h : caseOkB E xs = true) : Small (arrRow E xs) := by
  rw [arrRow_yes h]
  have hb := caseOk_bd h
  refine ⟨by rw [arr_length]; omega, fun y hy => ?_⟩
  obtain ⟨k, hk, rfl⟩ := List.getElem_of_mem hy
  have hk' : k < xs.length := by rwa [arr_length] at hk
  have e := arr_rg h hk'
  have e2 := (case_rg h k).2
  rw [← getD_of_lt _ k hk, arr_getD E xs k hk']
  omega
theorem arr_sum_is {E : Int} {xs : List Int} (h : caseOkB E xs = true) : (arrRow E xs).sum = 48 * E := by rw [arrRow_yes h]; exact arr_sum h
/-! Two people. -/
theorem half_two {E a b : Int} (h : caseOkB E [a, b] = true) : 2 * (halfAw E [a, b]).getD 0 0 = pairA (48 * a) (48 * b) (48 * E) ∧ 2 * (halfAw E [a, b]).getD 1 0 = pairB (48 * a) (48 * b) (48 * E) := by
  have hA := half_aw h
  have hg := ((agreeB_iff _ _ _).1 (half_agree h)).2
  have hl := halfAw_length E [a, b]
  generalize halfAw E [a, b] = ys at *
  match ys, hl with
  | [y, z], _ =>
    have e := hg.two 0 1 (by simp) (by simp)
    have hs := hA.2.2.2
    simp only [AgreeAt, List.getD_cons_zero, List.getD_cons_succ, List.sum_cons, List.sum_nil] at *
    rw [show y + z = 48 * E by omega] at e
    omega
theorem arr_two {E a b : Int} (h : caseOkB E [a, b] = true) : arr E [a, b] = halfAw E [a, b] := by
  have hA := arr_aw h
  have hx := case_nonneg h
  have ha : 0 ≤ a := hx 0
  have hb : 0 ≤ b := hx 1
  have hc := caseOk_bd h
  have e0 : (arr E [a, b]).getD 0 0 = 24 * (mar E a (0 + b) + mar E a 0) := by
    rw [arr_getD _ _ _ (by simp)]
    show 48 / fac 2 * (fac 1 * fac 0 * mar E a (0 + b) + fac 0 * fac 1 * mar E a 0) = _
    rw [fac_0, fac_1, fac_2]; omega
  have e1 : (arr E [a, b]).getD 1 0 = 24 * (mar E b (0 + a) + mar E b 0) := by
    rw [arr_getD _ _ _ (by simp)]
    show 48 / fac 2 * (fac 1 * fac 0 * mar E b (0 + a) + fac 0 * fac 1 * mar E b 0) = _
    rw [fac_0, fac_1, fac_2]; omega
  apply half_is
  refine (agreeB_iff _ _ _).2 ⟨(awardsB_iff _ _ _).2 hA, fun i j hi hj => ?_⟩
  rw [arr_length] at hi
  have hi2 : i < 2 := hi
  obtain rfl : i = 1 := by omega
  obtain rfl : j = 0 := by omega
  have hs := hA.2.2.2
  have hl := arr_length E [a, b]
  simp only [List.sum_cons, List.sum_nil] at hc
  generalize arr E [a, b] = ys at *
  match ys, hl with
  | [y, z], _ =>
    simp only [AgreeAt, List.getD_cons_zero, List.getD_cons_succ, List.sum_cons, List.sum_nil, pairA, pairB, mar] at *
    omega
theorem two_row {E : Int} {xs : List Int} (h : caseOkB E xs = true) {ys : List Int} (hy : ys = xs ∨ ys = xs ++ [3]) (h2 : 2 ≤ ys.length) : ∃ a b, ys.take 2 = [a, b] ∧ (0 ≤ a ∧ a ≤ 12) ∧ (0 ≤ b ∧ b ≤ 12) := by
  have hc := ((caseOk_iff E xs).1 h).2.2.1
  have hr : ∀ y ∈ ys, 0 ≤ y ∧ y ≤ 12 := by
    rcases hy with rfl | rfl
    · exact hc
    · intro y hy
      rcases List.mem_append.1 hy with e | e
      · exact hc y e
      · simp only [List.mem_singleton] at e; subst e; omega
  match ys, h2, hr with
  | a :: b :: r, _, hr => exact ⟨a, b, rfl, hr a (by simp), hr b (by simp)⟩
theorem two_case {E a b : Int} (hE : 0 ≤ E) (ha : 0 ≤ a ∧ a ≤ 12) (hb : 0 ≤ b ∧ b ≤ 12) : caseOkB (min E (a + b)) [a, b] = true := by
  refine (caseOk_iff _ _).2 ⟨by simp, by simp, fun x hx => ?_, by omega, by simp only [List.sum_cons, List.sum_nil]; omega⟩
  simp only [List.mem_cons, List.not_mem_nil, or_false] at hx
  rcases hx with rfl | rfl
  · exact ha
  · exact hb
theorem half_rg {E : Int} {xs : List Int} (h : caseOkB E xs = true) (k : Nat) : 0 ≤ (halfAw E xs).getD k 0 ∧ (halfAw E xs).getD k 0 ≤ 2304 := by
  by_cases hk : k < (halfAw E xs).length
  · have e := (half_aw h).2.2.1 k hk (by rw [halfAw_length] at hk; exact hk)
    have e2 := (case_rg h k).2
    rw [← getD_of_lt _ k hk, ← getD_of_lt xs k (by rw [halfAw_length] at hk; exact hk)] at e
    omega
  · rw [getD_far _ (by omega)]; omega
theorem two_pair {a b m : Int} (ha : 0 ≤ a ∧ a ≤ 12) (hb : 0 ≤ b ∧ b ≤ 12) (h0 : 0 ≤ m) (hm : m ≤ a + b) : pairIn (48 * a) (48 * b) (48 * m) = true := by
  unfold pairIn; exact decide_eq_true ⟨⟨by omega, by omega⟩, ⟨by omega, by omega⟩, by omega, by omega⟩

end Go.Proofs.Ytbegdcnljafloaa
