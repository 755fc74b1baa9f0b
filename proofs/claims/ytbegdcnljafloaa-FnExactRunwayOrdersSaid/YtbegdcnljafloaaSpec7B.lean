/-
  Chapter 7, the given package's functions ArrivalAwards, BringsOf, GameShares. Premises: lengths that fit.
-/
import Derived.Test.YtbegdcnljafloaaSpec7
import Derived.BigQuiet
import Derived.Deep.Cut
namespace Go.Proofs.Ytbegdcnljafloaa
open Go.RowKit


/-- A row by its numbers. -/
def fnRow (n : Nat) (f : Nat → Int) : List Int := (List.range n).map f
theorem fnRow_length (n : Nat) (f : Nat → Int) : (fnRow n f).length = n := by simp [fnRow]
theorem fnRow_getD {n : Nat} (f : Nat → Int) {k : Nat} (h : k < n) : (fnRow n f).getD k 0 = f k := by simp [fnRow, List.getD, h]
theorem fnRow_set {n : Nat} {f g : Nat → Int} {k : Nat} {v : Int} (h : ∀ i, i < n → ¬ i = k → f i = g i) (hv : v = g k) : (fnRow n f).set k v = fnRow n g := by
  refine List.ext_getElem (by simp [fnRow]) fun i h1 h2 => ?_
  have hi : i < n := by simpa [fnRow] using h2
  by_cases e : i = k
  · subst e; simp [fnRow, hv]
  · simp [fnRow, Ne.symm e, h i hi e]
theorem fnRow_congr {n : Nat} {f g : Nat → Int} (h : ∀ i, i < n → f i = g i) : fnRow n f = fnRow n g := by
  refine List.ext_getElem (by simp [fnRow]) fun i h1 h2 => ?_
  have hi : i < n := by simpa [fnRow] using h2
  simp [fnRow, h i hi]
theorem fnRow_zero (n : Nat) : fnRow n (fun _ => 0) = List.replicate n 0 := by simp [fnRow, List.map_const']
theorem perms_ok : ∀ n, n ≤ 4 → ∀ os ∈ perms n, os.length = n ∧ (List.range os.length).all (fun j => decide (0 ≤ os.getD j 0 ∧ os.getD j 0 < n ∧ (seenAt os n j).getD (os.getD j 0).toNat false = false)) = true
  | 0, _ => by decide +kernel
  | 1, _ => by decide +kernel
  | 2, _ => by decide +kernel
  | 3, _ => by decide +kernel
  | 4, _ => by decide +kernel
  | k + 5, h => by omega
theorem perms_order {n : Nat} (hn : n ≤ 4) {os : List Int} (h : os ∈ perms n) : orderB n os = true := by
  have e := perms_ok n hn os h
  exact order_yes e.1 ((ordTo_dec os n os.length).2 e.2)
theorem perms_in {n i : Nat} (hi : i < (perms n).length) : (perms n).getD i [] ∈ perms n := by
  simp only [List.getD, List.getElem?_eq_getElem hi, Option.getD_some]; exact List.getElem_mem hi
theorem ordTot_all {E : Int} {xs : List Int} (h1 : 1 ≤ xs.length) (h4 : xs.length ≤ 4) {k : Nat} (hk : k < xs.length) : ((perms xs.length).map fun os => (ordAw E xs os).getD k 0).sum = 48 * shp E (xs.getD k 0) (xs.eraseIdx k) 0 0 0 := by
  match xs, h1, h4, hk with
  | [a], _, _, hk => obtain rfl : k = 0 := by simpa using hk
                     exact ordTot_10
  | [a, b], _, _, hk =>
    rcases (show k = 0 ∨ k = 1 from by simp at hk; omega) with rfl | rfl
    · exact ordTot_20
    · exact ordTot_21
  | [a, b, c], _, _, hk =>
    rcases (show k = 0 ∨ k = 1 ∨ k = 2 from by simp at hk; omega) with rfl | rfl | rfl
    · exact ordTot_30
    · exact ordTot_31
    · exact ordTot_32
  | [a, b, c, d], _, _, hk =>
    rcases (show k = 0 ∨ k = 1 ∨ k = 2 ∨ k = 3 from by simp at hk; omega) with rfl | rfl | rfl | rfl
    · exact ordTot_40
    · exact ordTot_41
    · exact ordTot_42
    · exact ordTot_43
theorem perms_fac {n : Nat} (hn : n ≤ 4) : ((perms n).length : Int) = fac n := by
  rcases (show n = 0 ∨ n = 1 ∨ n = 2 ∨ n = 3 ∨ n = 4 from by omega) with rfl | rfl | rfl | rfl | rfl <;> rfl
theorem ord_mean {E : Int} {xs : List Int} (h1 : 1 ≤ xs.length) (h4 : xs.length ≤ 4) {k : Nat} (hk : k < xs.length) : ((perms xs.length).map fun os => (ordAw E xs os).getD k 0).sum / ((perms xs.length).length : Int) = arrAt E xs k := by
  rw [ordTot_all h1 h4 hk, perms_fac h4, arrAt]
  obtain ⟨e1, e2⟩ := part_fac h1 h4
  have e3 := fac_pos xs.length
  generalize shp E (xs.getD k 0) (xs.eraseIdx k) 0 0 0 = S
  generalize fac xs.length = F at *
  have e4 : 48 * S = F * (48 / F * S) := by rw [← Int.mul_assoc, Int.mul_comm F, e2]
  rw [e4, Int.mul_ediv_cancel_left _ (by omega)]
/-- What a person gets by the first m orders together. -/
def totTo (E : Int) (xs : List Int) (m i : Nat) : Int := (((perms xs.length).take m).map fun os => (ordAw E xs os).getD i 0).sum
theorem totTo_zero (E : Int) (xs : List Int) (i : Nat) : totTo E xs 0 i = 0 := by simp [totTo]
theorem totTo_succ (E : Int) (xs : List Int) {m : Nat} (h : m < (perms xs.length).length) (i : Nat) : totTo E xs (m + 1) i = totTo E xs m i + (ordAw E xs ((perms xs.length).getD m [])).getD i 0 := by
  unfold totTo
  rw [List.take_succ_eq_append_getElem h, List.map_append, List.sum_append]
  simp [List.getD, List.getElem?_eq_getElem h]
theorem totTo_all (E : Int) (xs : List Int) (i : Nat) : totTo E xs (perms xs.length).length i = ((perms xs.length).map fun os => (ordAw E xs os).getD i 0).sum := by simp [totTo]
theorem ordAw_rg {E : Int} {xs os : List Int} (h : caseOkB E xs = true) (i : Nat) : 0 ≤ (ordAw E xs os).getD i 0 ∧ (ordAw E xs os).getD i 0 ≤ 2304 := by
  by_cases hi : i < (ordAw E xs os).length
  · rw [getD_of_lt _ i hi]
    refine placed_mem (posRow E xs os) os xs.length (fun y => 0 ≤ y ∧ y ≤ 2304) (by omega) (fun x hx => ?_) os.length _ (List.getElem_mem hi)
    obtain ⟨p, _, rfl⟩ := List.mem_map.1 hx
    have e := mar_rg (E := E) (o := bef xs os p) (case_nonneg h (os.getD p 0).toNat)
    have e2 := (case_rg h (os.getD p 0).toNat).2
    unfold posAt; omega
  · rw [getD_far _ (by omega)]; omega
theorem totTo_rg {E : Int} {xs : List Int} (h : caseOkB E xs = true) (i : Nat) : ∀ m, m ≤ (perms xs.length).length → 0 ≤ totTo E xs m i ∧ totTo E xs m i ≤ 2304 * m
  | 0, _ => by rw [totTo_zero]; simp
  | m + 1, hm => by
    have e := totTo_rg h i m (by omega)
    have e2 := ordAw_rg (os := (perms xs.length).getD m []) h i
    rw [totTo_succ E xs (by omega)]
    omega
theorem ordRow_in {E : Int} {xs os : List Int} (h : caseOkB E xs = true) (ho : os ∈ perms xs.length) : ordRow E xs os = ordAw E xs os := by
  rw [ordRow, if_pos ⟨h, perms_order (caseOk_bd h).2.1 ho⟩]
/-- What ArrivalAwards returns. -/
noncomputable def arrRow (E : Int) (xs : List Int) : List Int := if caseOkB E xs = true then arr E xs else []
theorem arr_fn (E : Int) (xs : List Int) : arr E xs = fnRow xs.length (arrAt E xs) := rfl

theorem mid_rg {E : Int} {xs : List Int} (h : caseOkB E xs = true) {m j k : Nat} (hm : m < (perms xs.length).length) (hk : k < xs.length) : 0 ≤ (fnRow xs.length (fun i => if i < j then totTo E xs (m + 1) i else totTo E xs m i)).getD k 0 ∧ (fnRow xs.length (fun i => if i < j then totTo E xs (m + 1) i else totTo E xs m i)).getD k 0 ≤ 60000 := by
  have hb := caseOk_bd h
  have hp := perms_few xs.length (by omega)
  rw [fnRow_getD _ hk]
  have e1 := totTo_rg h k m (by omega)
  have e2 := totTo_rg h k (m + 1) (by omega)
  split <;> omega
theorem div_rg {E : Int} {xs : List Int} (h : caseOkB E xs = true) {q k : Nat} (hk : k < xs.length) (hq : q ≤ k) : 0 ≤ (fnRow xs.length (fun i => if i < q then arrAt E xs i else totTo E xs (perms xs.length).length i)).getD k 0 ∧ (fnRow xs.length (fun i => if i < q then arrAt E xs i else totTo E xs (perms xs.length).length i)).getD k 0 ≤ 60000 := by
  have hb := caseOk_bd h
  have hp := perms_few xs.length (by omega)
  rw [fnRow_getD _ hk]
  have e1 := totTo_rg h k _ (Nat.le_refl _)
  rw [if_neg (by omega)]
  omega

end Go.Proofs.Ytbegdcnljafloaa
