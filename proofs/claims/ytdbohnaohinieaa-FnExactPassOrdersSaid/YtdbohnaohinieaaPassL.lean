/-
  What the laws of chapter 11 want of the functions' values. No condition.
-/
import Derived.Test.YtdbohnaohinieaaSpec11
namespace Go.Proofs.Ytdbohnaohinieaa
open Go.RowKit

theorem vis_none {N : Int} (h1 : 1 ≤ N) (h4 : N ≤ 4) : visB N [] = true := (visB_iff _ _).2 ⟨h1, h4, by simp, by simp⟩
theorem vis_take {N : Int} {vs : List Int} (h : visB N vs = true) (m : Nat) : visB N (vs.take m) = true := by
  have e := (visB_iff _ _).1 h
  exact (visB_iff _ _).2 ⟨e.1, e.2.1, by rw [List.length_take]; omega, fun v hv => e.2.2.2 v (List.mem_of_mem_take hv)⟩
theorem passW_rg (N : Int) (vs : List Int) (s : Int) : -1 ≤ passW N vs s ∧ passW N vs s ≤ 6 := by
  unfold passW; split
  · rename_i h
    obtain ⟨n, rfl⟩ := vis_nat h.1
    have e := worthP_rg h.1 s.toNat; omega
  · omega
theorem passW_neg {N : Int} {vs : List Int} {s : Int} (h : passW N vs s < 0) : passW N vs s = -1 := by have e := passW_rg N vs s; omega
theorem passW_some {N : Int} {vs : List Int} {s : Int} (h : 0 ≤ passW N vs s) : visB N vs = true ∧ 0 ≤ s ∧ s < 2 ^ N.toNat := by
  unfold passW at h; split at h
  · assumption
  · omega
theorem passW_is {n : Nat} {vs : List Int} (h : visB (n : Int) vs = true) {t : Nat} (ht : t < 2 ^ n) : passW (n : Int) vs (t : Int) = worthP vs t := if_pos ⟨h, by omega, by have q := powI (n := n); rw [Int.toNat_natCast]; omega⟩
theorem passW_super {n : Nat} {vs : List Int} {a b : Int} (h : visB (n : Int) vs = true) (ha : 0 ≤ a ∧ a < 2 ^ n) (hb : 0 ≤ b ∧ b < 2 ^ n) : passW (n : Int) vs a + passW (n : Int) vs b ≤ passW (n : Int) vs (bits .or .i64 a b) + passW (n : Int) vs (bits .and .i64 a b) := by
  have hn := vis_n h
  have hp := pow16 hn.2.1
  have hq := powI (n := n)
  obtain ⟨x, y, rfl, rfl, h1, h2, h3, h4⟩ := or_bd ha hb (by omega)
  rw [h1, h2, passW_is h (by omega), passW_is h (by omega), passW_is h (by omega), passW_is h (by omega)]
  exact worthP_super h (by omega) (by omega)
theorem passW_none {n : Nat} {vs : List Int} (h : visB (n : Int) vs = true) : passW (n : Int) vs 0 = 0 := by
  have e := passW_is h (t := 0) (Nat.pow_pos (by omega))
  rw [show ((0 : Nat) : Int) = 0 from rfl] at e
  rw [e]; exact worthP_none vs
theorem passRow_none {N : Int} {vs : List Int} {p : Int} (h : ¬ (passRow N vs p).length = 0) : visB N vs = true ∧ 0 ≤ p ∧ p ≤ 12 := by
  unfold passRow at h; split at h
  · assumption
  · exact absurd rfl h
theorem passRow_length {n : Nat} {vs : List Int} {p : Int} (h : visB (n : Int) vs = true) (hp : 0 ≤ p ∧ p ≤ 12) : (passRow (n : Int) vs p).length = n := by rw [passRow_yes h hp, passR_length]
theorem passRow_at {n : Nat} {vs : List Int} {p : Int} (h : visB (n : Int) vs = true) (hp : 0 ≤ p ∧ p ≤ 12) {k : Nat} (hk : k < n) : (passRow (n : Int) vs p).getD k 0 = passAt vs p n k := by rw [passRow_yes h hp, passR, fnRow_getD _ hk]
theorem passRow_small (N : Int) (vs : List Int) (p : Int) : Small (passRow N vs p) := ⟨by have e := passRow_len4 N vs p; omega, fun x hx => by
  obtain ⟨k, hk, rfl⟩ := List.mem_iff_getElem.1 hx
  have e := passRow_rg N vs p k
  rw [getD_of_lt _ k hk] at e; omega⟩
theorem passRow_sum {n : Nat} {vs : List Int} {p : Int} (h : visB (n : Int) vs = true) (hp : 0 ≤ p ∧ p ≤ 12) : (passRow (n : Int) vs p).sum = 48 * p * passW (n : Int) vs (2 ^ n - 1) := by
  have e : 1 ≤ 2 ^ n := Nat.one_le_two_pow
  have q := powI (n := n)
  rw [show (2 : Int) ^ n - 1 = ((2 ^ n - 1 : Nat) : Int) from by omega, passW_is h (by omega), passRow_yes h hp]
  exact pass_sum h p
theorem passRow_wide {n : Nat} {vs : List Int} {p : Int} (h : visB (n : Int) vs = true) (hp : 0 ≤ p ∧ p ≤ 12) (h5 : vs.length ≤ 5) : passRow (n : Int) (vs ++ [0]) p = passRow (n : Int) vs p := by
  have e := (visB_iff _ _).1 h
  have q : visB (n : Int) (vs ++ [0]) = true := (visB_iff _ _).2 ⟨e.1, e.2.1, by simp; omega, fun v hv => by
    rcases List.mem_append.1 hv with z | z
    · exact e.2.2.2 v z
    · obtain rfl : v = 0 := by simpa using z
      exact ⟨by omega, Int.pow_pos (by omega)⟩⟩
  rw [passRow_yes q hp, passRow_yes h hp]
  exact fnRow_congr fun j _ => pass_wide vs p n j
/-- So far the houses were visited with the same passes. -/
def LikeTo (vs : List Int) (k j i : Nat) (b : Bool) : Prop := b = true → ∀ t, t < i → (visAt vs t).testBit k = (visAt vs t).testBit j
theorem LikeTo.zero (vs : List Int) (k j : Nat) (b : Bool) : LikeTo vs k j 0 b := fun _ _ h => absurd h (by omega)
theorem LikeTo.no (vs : List Int) (k j i : Nat) : LikeTo vs k j i false := fun h => by cases h
theorem LikeTo.more {n : Nat} {vs : List Int} {k j i : Nat} {v : Int} (hb : visB (n : Int) vs = true) (h : LikeTo vs k j i true) (hv : v = vs.getD i 0) (e : v / 2 ^ k % 2 = v / 2 ^ j % 2) : LikeTo vs k j (i + 1) true := fun _ t ht => by
  rcases Nat.lt_or_ge t i with q | q
  · exact h rfl t q
  · obtain rfl : t = i := by omega
    have e1 := bit_at hb (q := k) hv
    have e2 := bit_at hb (q := j) hv
    rw [e] at e1
    rw [Bool.eq_iff_iff]
    exact e1.symm.trans e2
theorem LikeTo.moreB {n : Nat} {vs : List Int} {k j i : Nat} {v : Int} (hb : visB (n : Int) vs = true) (h : LikeTo vs k j i true) (hv : v = vs.getD i 0) : LikeTo vs k j (i + 1) (v / 2 ^ k % 2 == v / 2 ^ j % 2) := fun e => LikeTo.more hb h hv (by simpa using e) rfl
theorem pass_in_rg {N : Int} {vs : List Int} {p : Int} (t : Int) : ∀ {j : Nat}, j ≤ 4 → 0 ≤ inSum (passRow N vs p) t j ∧ inSum (passRow N vs p) t j ≤ 6912 * (j : Int)
  | 0, _ => by simp [inSum]
  | j + 1, h => by
    have e := pass_in_rg (N := N) (vs := vs) (p := p) t (j := j) (by omega)
    have e2 := passRow_rg N vs p j
    simp only [inSum]
    rw [Int.natCast_add]
    split <;> omega
theorem passTo_all (vs : List Int) (p : Int) (n : Nat) : fnRow n (passTo vs p n vs.length) = passR n vs p := rfl
theorem pass_alone {n : Nat} {vs : List Int} {p v : Int} (h : visB (n : Int) vs = true) (hp : 0 ≤ p ∧ p ≤ 12) {k : Nat} (_hk : k < vs.length) (hv : v = vs.getD k 0) : passRow (n : Int) [v] p = passR n [v] p ∧ visB (n : Int) [v] = true := by
  have e := (visB_iff _ _).1 h
  have e2 := vis_rg h k
  have q : visB (n : Int) [v] = true := (visB_iff _ _).2 ⟨e.1, e.2.1, by simp, fun x hx => by
    obtain rfl : x = v := by simpa using hx
    rw [hv, Int.toNat_natCast]; exact e2⟩
  exact ⟨passRow_yes q hp, q⟩
theorem pass_more {n : Nat} {vs : List Int} {p : Int} {k q : Nat} {o m v : Int} (hq : q < n) (hv : v = vs.getD k 0) (ho : o = (fnRow n (fun i => if i < q then passTo vs p n (k + 1) i else passTo vs p n k i)).getD q 0) (hm : m = passAt [v] p n q) : (fnRow n (fun i => if i < q then passTo vs p n (k + 1) i else passTo vs p n k i)).set q (o + m) = fnRow n (fun i => if i < q + 1 then passTo vs p n (k + 1) i else passTo vs p n k i) := by
  refine fnRow_set (fun i _ hi => ?_) ?_
  · by_cases e : i < q
    · (try simp only []); rw [if_pos e, if_pos (by omega)]
    · (try simp only []); rw [if_neg e, if_neg (by omega)]
  · rw [ho, fnRow_getD _ hq, hm, pass_one, hv]
    (try simp only []); rw [if_neg (by omega), if_pos (by omega)]; rfl
theorem pass_has {n : Nat} {vs : List Int} (h : visB (n : Int) vs = true) {p : Int} (hp : 0 ≤ p ∧ p ≤ 12) {t : Nat} (ht : t < 2 ^ n) : 48 * p * passW (n : Int) vs (t : Int) ≤ inSum (passRow (n : Int) vs p) (t : Int) n := by
  rw [passW_is h ht, passRow_yes h hp]
  exact pass_set h ⟨hp.1, by omega⟩ t

end Go.Proofs.Ytdbohnaohinieaa
