/-
  The level up to which claims in parts are met, as the program finds it: whether they are claims in parts; a sorted copy; the level. No condition but that they are, and an estate that they cover.
-/
import Derived.Test.YtakmbpdapdnniaaInParts
import Derived.Test.YtakmbpdapdnniaaSort
import Derived.BigQuiet
namespace Go.Proofs.Ytakmbpdapdnniaa
open Go.RowKit

/-- 1..4 claims in parts, each in 0..576. -/
def partB (xs : List Int) : Bool := decide (1 ≤ xs.length ∧ xs.length ≤ 4 ∧ ∀ x ∈ xs, 0 ≤ x ∧ x ≤ 576)
theorem partB_iff (xs : List Int) : partB xs = true ↔ (1 ≤ xs.length ∧ xs.length ≤ 4 ∧ ∀ x ∈ xs, 0 ≤ x ∧ x ≤ 576) := by simp [partB]
theorem partB_bad (xs : List Int) (k : Nat) (hk : k < xs.length) (h : ¬ (0 ≤ xs[k] ∧ xs[k] ≤ 576)) : partB xs = false := by
  simp only [partB, decide_eq_false_iff_not]; intro h'; exact h (h'.2.2 _ (List.getElem_mem hk))
/-- The first k numbers are claims in parts. -/
def PUpto (xs : List Int) (k : Nat) : Prop := ∀ j, (h : j < xs.length) → j < k → 0 ≤ xs[j] ∧ xs[j] ≤ 576
theorem PUpto.zero (xs : List Int) : PUpto xs 0 := fun _ _ h => absurd h (by omega)
theorem PUpto.succ {xs : List Int} {k : Nat} (h : PUpto xs k) (hk : k < xs.length) (hx : 0 ≤ xs[k] ∧ xs[k] ≤ 576) : PUpto xs (k + 1) := fun j hj hjk => by
  rcases Nat.lt_or_ge j k with h1 | h1
  · exact h j hj h1
  · obtain rfl : j = k := by omega
    exact hx
theorem PUpto.all {xs : List Int} (h : PUpto xs xs.length) : ∀ x ∈ xs, 0 ≤ x ∧ x ≤ 576 := fun x hx => by
  obtain ⟨j, hj, rfl⟩ := List.getElem_of_mem hx
  exact h j hj hj
theorem partB_end (xs : List Int) (h : PUpto xs xs.length) : partB xs = decide (1 ≤ xs.length ∧ xs.length ≤ 4) := by
  simp only [partB, decide_eq_decide]
  exact ⟨fun h' => ⟨h'.1, h'.2.1⟩, fun h' => ⟨h'.1, h'.2, h.all⟩⟩
theorem part_small {xs : List Int} (h : partB xs = true) : Small xs := by
  have h1 := (partB_iff xs).1 h
  exact ⟨by omega, fun x hx => by have := h1.2.2 x hx; omega⟩
theorem part_sum {xs : List Int} (h : partB xs = true) : 0 ≤ xs.sum ∧ xs.sum ≤ 2304 := by
  have h1 := (partB_iff xs).1 h
  have h2 := sum_bd_aux 576 (by omega) xs fun x hx => by have := h1.2.2 x hx; omega
  have h3 := sum_nonneg xs fun x hx => (h1.2.2 x hx).1
  omega

set_option maxRecDepth 10000 in
set_option maxHeartbeats 400000 in
theorem partOk_any (A : Option Addr) (c : Nat) (xs : List Int) (w : World) (lo hi : Nat) (h : Ints w lo hi A xs) (hl : xs.length ≤ 1152921504606846976) :
    Calls Try.prog 46 #[.slice A xs.length c] w fun e w' => e = .returned (.bool (partB xs)) ∧ w = w' := by
  go_enter Try.func46, Try.ntmps46
  go_wp2
  go_loop [7] (fun i => ∃ k : Nat, k ≤ xs.length ∧ i = .int .i64 k ∧ PUpto xs k) (fun i => xs.length - (intOf i).toNat)
  case atStart => exact ⟨0, Nat.zero_le _, rfl, PUpto.zero _⟩
  case round =>
    obtain ⟨k, hk, rfl, hu⟩ := hrel
    by_cases hlt : k < xs.length
    · obtain ⟨b, o, rfl, _, hb, hc⟩ := h.at_ hlt
      by_cases hx : 0 ≤ xs[k] ∧ xs[k] ≤ 576
      · have hu' := hu.succ hlt hx
        obtain ⟨hx1, hx2⟩ := hx
        clear hu
        go_wp2
        go_round
        case rel => exact ⟨k + 1, by omega, by go_num, hu'⟩
        case measure => simp [intOf]; omega
      · have hbad := Lib.hid (partB_bad xs k hlt hx)
        by_cases hx1 : 0 ≤ xs[k]
        · have hx2 : ¬ xs[k] ≤ 576 := by omega
          clear hx
          go_wp2
          go_ret
          exact ⟨ret_bool hbad.out.symm, rfl⟩
        · clear hx
          go_wp2
          go_ret
          exact ⟨ret_bool hbad.out.symm, rfl⟩
    · obtain rfl : k = xs.length := by omega
      have hend := Lib.hid (partB_end xs hu)
      clear hu
      by_cases h1 : 1 ≤ xs.length
      · go_wp2
        go_ret
        exact ⟨ret_bool (by rw [hend.out]; by_cases h4 : xs.length ≤ 4 <;> simp [h1, h4] <;> omega), rfl⟩
      · go_wp2
        go_ret
        exact ⟨ret_bool (by rw [hend.out]; simp [h1]), rfl⟩

/-- What the loop of the level keeps: the rest in order, what is left, the level so far. -/
def LevAt (xs : List Int) (e : Int) (k : Nat) (L left : Int) : Prop := lev ((srt xs).drop k) left L = lev (srt xs) e 0 ∧ 0 ≤ left ∧ left ≤ 2304 ∧ 0 ≤ L ∧ (∀ x ∈ (srt xs).drop k, L ≤ x)
theorem levAt_0 {xs : List Int} {e : Int} (h : partB xs = true) (h0 : 0 ≤ e) (h1 : e ≤ xs.sum) : LevAt xs e 0 0 e := by
  have := part_sum h
  exact ⟨by simp, h0, by omega, by omega, fun x hx => (((partB_iff xs).1 h).2.2 x (mem_srt.1 (by simpa using hx))).1⟩
theorem lev_drop (S : List Int) (k : Nat) (h : k < S.length) (left L : Int) : lev (S.drop k) left L =
    if left < S[k] * ((S.length : Int) - (k : Int)) then (left / ((S.length : Int) - (k : Int)), left % ((S.length : Int) - (k : Int)) == 0) else lev (S.drop (k + 1)) (left - S[k]) S[k] := by
  rw [List.drop_eq_getElem_cons h]
  have e : ((S.drop (k + 1)).length : Int) + 1 = (S.length : Int) - (k : Int) := by rw [List.length_drop]; omega
  show (if left < S[k] * (((S.drop (k + 1)).length : Int) + 1) then _ else _) = _
  rw [e]
theorem srt_rg {xs : List Int} (h : partB xs = true) (k : Nat) (hk : k < (srt xs).length) : 0 ≤ (srt xs)[k] ∧ (srt xs)[k] ≤ 576 := ((partB_iff xs).1 h).2.2 _ (mem_srt.1 (List.getElem_mem hk))
theorem prod_bd (v : Int) (n k : Nat) (h0 : 0 ≤ v) (h1 : v ≤ 576) (hk : k < n) (hn : n ≤ 4) : v ≤ v * ((n : Int) - (k : Int)) ∧ 0 ≤ v * ((n : Int) - (k : Int)) ∧ v * ((n : Int) - (k : Int)) ≤ 2304 := by
  rcases (show (n : Int) - (k : Int) = 1 ∨ (n : Int) - (k : Int) = 2 ∨ (n : Int) - (k : Int) = 3 ∨ (n : Int) - (k : Int) = 4 from by omega) with e | e | e | e <;> rw [e] <;> omega
theorem levAt_next {xs : List Int} {e : Int} {k : Nat} {L left : Int} (h : LevAt xs e k L left) (hp : partB xs = true) (hk : k < (srt xs).length) (hg : ¬ left < (srt xs)[k] * (((srt xs).length : Int) - (k : Int))) :
    LevAt xs e (k + 1) (srt xs)[k] (left - (srt xs)[k]) := by
  obtain ⟨h1, h2, h3, h4, h5⟩ := h
  have hv := srt_rg hp k hk
  have hn : (srt xs).length ≤ 4 := by rw [srt_length]; exact ((partB_iff xs).1 hp).2.1
  have hb := prod_bd (srt xs)[k] (srt xs).length k hv.1 hv.2 hk hn
  refine ⟨?_, by omega, by omega, hv.1, fun x hx => (sorted_take_le (srt_sorted xs) k hk).2 x hx⟩
  rw [lev_drop _ k hk, if_neg hg] at h1
  exact h1
theorem levAt_end {xs : List Int} {e : Int} {k : Nat} {L left : Int} (h : LevAt xs e k L left) (hk : k < (srt xs).length) (hg : left < (srt xs)[k] * (((srt xs).length : Int) - (k : Int))) :
    evenLev xs e = left / (((srt xs).length : Int) - (k : Int)) ∧ evenOk xs e = (left % (((srt xs).length : Int) - (k : Int)) == 0) := by
  have h1 := h.1
  rw [lev_drop _ k hk, if_pos hg] at h1
  exact ⟨by rw [evenLev, ← h1], by rw [evenOk, ← h1]⟩
theorem levAt_all {xs : List Int} {e : Int} {L left : Int} (h : LevAt xs e (srt xs).length L left) : evenLev xs e = L ∧ evenOk xs e = true := by
  have h1 := h.1
  rw [List.drop_length] at h1
  exact ⟨by rw [evenLev, ← h1]; rfl, by rw [evenOk, ← h1]; rfl⟩
theorem ret_pair {a b : Int} {p q : Bool} (h1 : a = b) (h2 : p = q) : Ending.returned (.tuple #[.int .i64 a, .bool p]) = .returned (.tuple #[.int .i64 b, .bool q]) := by rw [h1, h2]

set_option maxRecDepth 10000 in
set_option maxHeartbeats 1000000 in
theorem levelOf_any (A : Option Addr) (c : Nat) (xs : List Int) (e : Int) (w : World) (lo hi : Nat) (h : Ints w lo hi A xs) (hh : hi ≤ w.heap.size) (hp : partB xs = true) (h0 : 0 ≤ e) (h1 : e ≤ xs.sum) :
    Calls Try.prog 47 #[.slice A xs.length c, .int .i64 e] w fun en w' => en = .returned (.tuple #[.int .i64 (evenLev xs e), .bool (evenOk xs e)]) ∧ Below w.heap.size w w' := by
  have HP := Lib.hid hp
  have hbd := (partB_iff xs).1 hp
  have hn : 0 < xs.length := hbd.1
  have hn4 : xs.length ≤ 4 := hbd.2.1
  have hat := levAt_0 hp h0 h1
  have hSl := srt_length xs
  have HL := Lib.hid hSl
  clear hbd hp hSl
  go_enter Try.func47, Try.ntmps47
  go_wp2_with fail
  refine (ascending_any A c xs _ lo hi h hh hn (by omega)).mono ?_
  rintro en w1 ⟨A1, c1, rfl, ho1, hb1⟩
  have k1 := ho1.ints
  have H1 := Lib.hid hb1
  clear ho1 hb1 h h0 h1
  go_wp2
  go_loop [6, 7, 15] (fun lv lf i => ∃ k : Nat, ∃ L left : Int, k ≤ (srt xs).length ∧ i = .int .i64 k ∧ lv = .int .i64 L ∧ lf = .int .i64 left ∧ LevAt xs e k L left) (fun _ _ i => (srt xs).length - (intOf i).toNat)
  case atStart => exact ⟨0, 0, e, Nat.zero_le _, rfl, rfl, rfl, hat⟩
  case round =>
    obtain ⟨k, L, left, hk, rfl, rfl, rfl, hL⟩ := hrel
    clear hat
    by_cases hlt : k < (srt xs).length
    · obtain ⟨b, o, rfl, _, _, hc⟩ := k1.at_ hlt
      have hv := srt_rg HP.out k hlt
      have hm := prod_bd (srt xs)[k] xs.length k hv.1 hv.2 (by have := HL.out; omega) hn4
      have hl0 := hL.2.1
      have hl1 := hL.2.2.1
      have hkx : k < xs.length := by have := HL.out; omega
      by_cases hg : left < (srt xs)[k] * ((xs.length : Int) - (k : Int))
      · have H := Lib.hid (levAt_end hL hlt (by rw [HL.out]; exact hg))
        clear hL
        generalize (srt xs)[k] = v at hc hv hm hg
        have hne : ((xs.length : Int) - (k : Int) == 0) = false := beq_eq_false_iff_ne.2 (by omega)
        have hp1 : 0 < (xs.length : Int) - (k : Int) := by omega
        have hq : IntKind.i64.wrap (left.tdiv ((xs.length : Int) - (k : Int))) = left / ((xs.length : Int) - (k : Int)) := by
          rw [Int.tdiv_eq_ediv_of_nonneg hl0]
          have := Int.ediv_nonneg hl0 (Int.le_of_lt hp1)
          have := Int.ediv_le_self ((xs.length : Int) - (k : Int)) hl0
          exact IntWalk.i64_in _ (by omega)
        have hr : IntKind.i64.wrap (left.tmod ((xs.length : Int) - (k : Int))) = left % ((xs.length : Int) - (k : Int)) := by
          rw [Int.tmod_eq_emod_of_nonneg hl0]
          have := Int.emod_nonneg left (by omega : (xs.length : Int) - (k : Int) ≠ 0)
          have := Int.emod_lt_of_pos left hp1
          exact IntWalk.i64_in _ (by omega)
        go_wp2
        go_quiet (fail)
        go_wp2
        go_ret2
        exact ⟨ret_pair (by rw [H.out.1, HL.out]) (by rw [H.out.2, HL.out]), below_drewN H1.out _⟩
      · have H := Lib.hid (levAt_next hL HP.out hlt (by rw [HL.out]; exact hg))
        clear hL
        generalize hvv : (srt xs)[k] = v at hc hv hm hg
        rw [hvv] at H
        clear hvv
        go_wp2
        go_round
        case rel => exact ⟨k + 1, v, left - v, by omega, by go_num, rfl, rfl, H.out⟩
        case measure => simp [intOf]; omega
    · obtain rfl : k = (srt xs).length := by omega
      have H := Lib.hid (levAt_all hL)
      clear hL
      go_wp2
      go_ret2
      exact ⟨ret_pair H.out.1.symm H.out.2.symm, H1.out⟩

end Go.Proofs.Ytakmbpdapdnniaa
