/-
  Both tests of an order return the same. No condition but lengths that fit.
-/
import Derived.Test.YtpoafafoncgenaaClone
namespace Go.Proofs.Ytpoafafoncgenaa
open Go.RowKit

/-- Which places are taken behind the first k numbers of an order. -/
def seenAt (ys : List Int) (n : Nat) : Nat → List Bool
  | 0 => List.replicate n false
  | k + 1 => (seenAt ys n k).set (ys.getD k 0).toNat true
theorem seenAt_length (ys : List Int) (n : Nat) : ∀ k, (seenAt ys n k).length = n
  | 0 => by simp [seenAt]
  | k + 1 => by simp [seenAt, seenAt_length ys n k]
/-- The number at j is a place, and not taken before. -/
def OrdAt (ys : List Int) (n : Nat) (j : Nat) : Prop := 0 ≤ ys.getD j 0 ∧ ys.getD j 0 < n ∧ (seenAt ys n j).getD (ys.getD j 0).toNat false = false
def OrdTo (ys : List Int) (n : Nat) (k : Nat) : Prop := ∀ j, j < k → OrdAt ys n j
noncomputable def orderB (n : Nat) (ys : List Int) : Bool := @decide (ys.length = n ∧ OrdTo ys n ys.length) (Classical.propDecidable _)
theorem OrdTo.zero (ys : List Int) (n : Nat) : OrdTo ys n 0 := fun _ h => absurd h (by omega)
theorem OrdTo.succ {ys : List Int} {n k : Nat} (h : OrdTo ys n k) (hk : OrdAt ys n k) : OrdTo ys n (k + 1) := fun j hj => by
  rcases Nat.lt_or_ge j k with h1 | h1
  · exact h j h1
  · obtain rfl : j = k := by omega
    exact hk
theorem order_len {n : Nat} {ys : List Int} (h : ¬ ys.length = n) : orderB n ys = false := by simp [orderB, h]
theorem order_bad {n : Nat} {ys : List Int} {k : Nat} (hk : k < ys.length) (h : ¬ OrdAt ys n k) : orderB n ys = false := by
  have h' : ¬ (ys.length = n ∧ OrdTo ys n ys.length) := fun h2 => h (h2.2 k hk)
  simp [orderB, h']
theorem order_yes {n : Nat} {ys : List Int} (h : ys.length = n) (h2 : OrdTo ys n ys.length) : orderB n ys = true := by simp [orderB, h2]; exact h
theorem order_end {n : Nat} {ys : List Int} (h2 : OrdTo ys n ys.length) : orderB n ys = decide (ys.length = n) := by
  by_cases h : ys.length = n
  · rw [order_yes h h2]; simp [h]
  · rw [order_len h]; simp [h]

theorem bit_test (m y : Nat) : (((m : Int) / 2 ^ y).tmod 2 == 1) = m.testBit y := by
  have e : ((m : Int) / 2 ^ y) = ((m / 2 ^ y : Nat) : Int) := by
    rw [Int.natCast_ediv]; simp
  rw [e, Nat.testBit_eq_decide_div_mod_eq]
  have e2 : ((m / 2 ^ y : Nat) : Int).tmod 2 = ((m / 2 ^ y % 2 : Nat) : Int) := rfl
  rw [e2]
  by_cases h : m / 2 ^ y % 2 = 1
  · simp [h]
  · simp [h]; omega
theorem or_step_fin : ∀ m : Fin 16, ∀ y : Fin 4, bits .or .i64 (m.val : Int) (wrap64 (2 ^ y.val)) = ((m.val ||| 2 ^ y.val : Nat) : Int) ∧ (m.val ||| 2 ^ y.val) < 16 := by decide +kernel
theorem or_step {m y : Nat} (hm : m < 16) (hy : y < 4) : bits .or .i64 (m : Int) (wrap64 (2 ^ y)) = ((m ||| 2 ^ y : Nat) : Int) ∧ (m ||| 2 ^ y) < 16 := or_step_fin ⟨m, hm⟩ ⟨y, hy⟩
theorem seen_step {ys : List Int} {n k m y : Nat} (hy : ys.getD k 0 = (y : Int)) (hyn : y < n) (hbit : ∀ p, p < 4 → m.testBit p = (seenAt ys n k).getD p false) : ∀ p, p < 4 → (m ||| 2 ^ y).testBit p = (seenAt ys n (k + 1)).getD p false := fun p hp => by
  rw [Nat.testBit_or, Nat.testBit_two_pow, hbit p hp, seenAt, hy, Int.toNat_natCast]
  have hl := seenAt_length ys n k
  by_cases e : y = p
  · subst e
    simp [List.getD, hl, hyn]
  · simp [List.getD, e]

set_option maxRecDepth 10000 in
set_option maxHeartbeats 400000 in
theorem l1Order_any (D : Option Addr) (d : Nat) (ys : List Int) (n : Nat) (w : World) (lo hi : Nat) (h : Ints w lo hi D ys) (hn : n ≤ 4) (hl : ys.length ≤ 1152921504606846976) :
    Calls Try.prog 59 #[.int .i64 (n : Int), .slice D ys.length d] w fun e w' => e = .returned (.bool (orderB n ys)) ∧ w = w' := by
  go_enter Try.func59, Try.ntmps59
  go_wp2
  go_loop [5, 6] (fun s i => ∃ k m : Nat, k ≤ ys.length ∧ i = .int .i64 k ∧ s = .int .i64 m ∧ m < 16 ∧ OrdTo ys n k ∧ ∀ p, p < 4 → m.testBit p = (seenAt ys n k).getD p false) (fun _ i => ys.length - (intOf i).toNat)
  case atStart => exact ⟨0, 0, Nat.zero_le _, rfl, rfl, by omega, OrdTo.zero _ _, fun p hp => by simp [seenAt, List.getD, List.getElem?_replicate]; split <;> rfl⟩
  case round =>
    obtain ⟨k, m, hk, rfl, rfl, hm, hu, hbit⟩ := hrel
    by_cases hlt : k < ys.length
    · obtain ⟨b, o, rfl, _, hb, hc⟩ := h.at_ hlt
      by_cases h1 : 0 ≤ ys[k]
      · by_cases h2 : ys[k] < (n : Int)
        · obtain ⟨y, hy⟩ : ∃ y : Nat, ys[k] = (y : Int) := ⟨ys[k].toNat, by omega⟩
          rw [hy] at hc
          have hy4 : y < 4 := by omega
          have hyn : (y : Int) < (n : Int) := by omega
          have HY := Lib.hid hy
          have hg : ys.getD k 0 = (y : Int) := by rw [getD_of_lt ys k hlt]; exact hy
          cases hB : m.testBit y
          · have hX : (((m : Int) / 2 ^ y).tmod 2 == 1) = false := by rw [bit_test]; exact hB
            have hat : OrdAt ys n k := ⟨by rw [hg]; omega, by rw [hg]; exact hyn, by rw [hg, Int.toNat_natCast, ← hbit y hy4]; exact hB⟩
            have H := Lib.hid (And.intro (hu.succ hat) (seen_step hg (by omega) hbit))
            obtain ⟨o1, o2⟩ := or_step hm hy4
            have HO := Lib.hid o1
            clear hy h1 h2 hu hbit hat hg hB o1
            go_wp2
            go_round
            case rel => exact ⟨k + 1, m ||| 2 ^ y, by omega, by go_num, congrArg (Value.int .i64) HO.out, o2, H.out.1, H.out.2⟩
            case measure => simp [intOf]; omega
          · have hX : (((m : Int) / 2 ^ y).tmod 2 == 1) = true := by rw [bit_test]; exact hB
            have hbad := Lib.hid (order_bad (n := n) hlt (fun hat => by have e := hat.2.2; rw [hg, Int.toNat_natCast, ← hbit y hy4, hB] at e; cases e))
            clear hy h1 h2 hu hbit hg hB
            go_wp2
            go_ret
            exact ⟨ret_bool hbad.out.symm, rfl⟩
        · have hbad := Lib.hid (order_bad (n := n) hlt (fun hat => by have e := hat.2.1; rw [getD_of_lt ys k hlt] at e; exact h2 e))
          clear hu hbit
          go_wp2
          go_ret
          exact ⟨ret_bool hbad.out.symm, rfl⟩
      · have hbad := Lib.hid (order_bad (n := n) hlt (fun hat => by have e := hat.1; rw [getD_of_lt ys k hlt] at e; exact h1 e))
        clear hu hbit
        go_wp2
        go_ret
        exact ⟨ret_bool hbad.out.symm, rfl⟩
    · obtain rfl : k = ys.length := by omega
      have hend := Lib.hid (order_end hu)
      clear hu hbit
      go_wp2
      go_ret
      exact ⟨ret_bool (by rw [hend.out]; first | rfl | (rw [Bool.eq_iff_iff, beq_iff_eq, decide_eq_true_iff]; omega)), rfl⟩

end Go.Proofs.Ytpoafafoncgenaa
