/-
  Whether numbers are claims in parts, as the program finds it. No condition but a length that fits.
-/
import Derived.Test.YtilhholjbjhaeaaSum
import Derived.Test.YtilhholjbjhaeaaDraw2
namespace Go.Proofs.Ytilhholjbjhaeaa
open Go.RowKit

/-- 1..4 claims in parts, each in 0..576. -/
def partB (xs : List Int) : Bool := decide (1 ≤ xs.length ∧ xs.length ≤ 4 ∧ ∀ x ∈ xs, 0 ≤ x ∧ x ≤ 576)
theorem partB_iff (xs : List Int) : partB xs = true ↔ (1 ≤ xs.length ∧ xs.length ≤ 4 ∧ ∀ x ∈ xs, 0 ≤ x ∧ x ≤ 576) := by simp [partB]
theorem partB_bad (xs : List Int) (k : Nat) (hk : k < xs.length) (h : ¬ (0 ≤ xs[k] ∧ xs[k] ≤ 576)) : partB xs = false := by
  simp only [partB, decide_eq_false_iff_not]; intro h'; exact h (h'.2.2 _ (List.getElem_mem hk))
/-- The first k numbers are claims in parts. -/
def PUpto (xs : List Int) (k : Nat) : Prop := ∀ j, (h : j < xs.length) → j < k → 0 ≤ xs[j] ∧ xs[j] ≤ 576
theorem PUpto.zero (xs : List Int) : PUpto xs 0 := fun _ _ h => absurd h (by omega)
theorem PUpto.succ {xs : List Int} {k : Nat} (h : PUpto xs k) (hk : k < xs.length) (hx : 0 ≤ xs[k] ∧ xs[k] ≤ 576) : PUpto xs (k + 1) := fun j hj hjk => by
  rcases Nat.lt_or_ge j k with h1 | h1
  · exact h j hj h1
  · obtain rfl : j = k := by omega
    exact hx
theorem PUpto.all {xs : List Int} (h : PUpto xs xs.length) : ∀ x ∈ xs, 0 ≤ x ∧ x ≤ 576 := fun x hx => by
  obtain ⟨j, hj, rfl⟩ := List.getElem_of_mem hx
  exact h j hj hj
theorem partB_end (xs : List Int) (h : PUpto xs xs.length) : partB xs = decide (1 ≤ xs.length ∧ xs.length ≤ 4) := by
  simp only [partB, decide_eq_decide]
  exact ⟨fun h' => ⟨h'.1, h'.2.1⟩, fun h' => ⟨h'.1, h'.2, h.all⟩⟩
theorem part_small {xs : List Int} (h : partB xs = true) : Small xs := by
  have h1 := (partB_iff xs).1 h
  exact ⟨by omega, fun x hx => by have := h1.2.2 x hx; omega⟩
theorem part_sum {xs : List Int} (h : partB xs = true) : 0 ≤ xs.sum ∧ xs.sum ≤ 2304 := by
  have h1 := (partB_iff xs).1 h
  have h2 := sum_bd_aux 576 (by omega) xs fun x hx => by have := h1.2.2 x hx; omega
  have h3 := sum_nonneg xs fun x hx => (h1.2.2 x hx).1
  omega

set_option maxRecDepth 10000 in
set_option maxHeartbeats 400000 in
theorem partOk_any (A : Option Addr) (c : Nat) (xs : List Int) (w : World) (lo hi : Nat) (h : Ints w lo hi A xs) (hl : xs.length ≤ 1152921504606846976) :
    Calls Try.prog 26 #[.slice A xs.length c] w fun e w' => e = .returned (.bool (partB xs)) ∧ w = w' := by
  go_enter Try.func26, Try.ntmps26
  go_wp2
  go_loop [7] (fun i => ∃ k : Nat, k ≤ xs.length ∧ i = .int .i64 k ∧ PUpto xs k) (fun i => xs.length - (intOf i).toNat)
  case atStart => exact ⟨0, Nat.zero_le _, rfl, PUpto.zero _⟩
  case round =>
    obtain ⟨k, hk, rfl, hu⟩ := hrel
    by_cases hlt : k < xs.length
    · obtain ⟨b, o, rfl, _, hb, hc⟩ := h.at_ hlt
      by_cases hx : 0 ≤ xs[k] ∧ xs[k] ≤ 576
      · have hu' := hu.succ hlt hx
        obtain ⟨hx1, hx2⟩ := hx
        clear hu
        go_wp2
        go_round
        case rel => exact ⟨k + 1, by omega, by go_num, hu'⟩
        case measure => simp [intOf]; omega
      · have hbad := Lib.hid (partB_bad xs k hlt hx)
        by_cases hx1 : 0 ≤ xs[k]
        · have hx2 : ¬ xs[k] ≤ 576 := by omega
          clear hx
          go_wp2
          go_ret
          exact ⟨ret_bool hbad.out.symm, rfl⟩
        · clear hx
          go_wp2
          go_ret
          exact ⟨ret_bool hbad.out.symm, rfl⟩
    · obtain rfl : k = xs.length := by omega
      have hend := Lib.hid (partB_end xs hu)
      clear hu
      by_cases h1 : 1 ≤ xs.length
      · go_wp2
        go_ret
        exact ⟨ret_bool (by rw [hend.out]; by_cases h4 : xs.length ≤ 4 <;> simp [h1, h4] <;> omega), rfl⟩
      · go_wp2
        go_ret
        exact ⟨ret_bool (by rw [hend.out]; simp [h1]), rfl⟩

theorem partOk_is (A : Option Addr) (c : Nat) (xs : List Int) (w : World) (lo hi : Nat) (h : Ints w lo hi A xs) (hl : xs.length ≤ 1152921504606846976) {b : Bool} (hb : partB xs = b) :
    Calls Try.prog 26 #[.slice A xs.length c] w fun e w' => e = .returned (.bool b) ∧ w = w' := by
  rw [← hb]; exact partOk_any A c xs w lo hi h hl

end Go.Proofs.Ytilhholjbjhaeaa
